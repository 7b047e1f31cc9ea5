package session_test

import (
	stdaes "crypto/aes"
	"crypto/cipher"
	"crypto/ecdh"
	"crypto/hkdf"
	"crypto/hmac"
	"crypto/sha256"
	"encoding/binary"
	"slices"

	"lethe/api"
)

// The words of chapters 5, 7, 13, 16 and 17. Numbers are int64s: none of the sums below wraps round.

func wordsPrivate(k api.Key) *ecdh.PrivateKey {
	own, err := ecdh.X25519().NewPrivateKey(k[:])
	if err != nil {
		panic(err)
	}
	return own
}

func wordsShared(priv, pub api.Key) (api.Key, api.Errno) {
	other, err := ecdh.X25519().NewPublicKey(pub[:])
	if err != nil {
		panic(err)
	}
	secret, err := wordsPrivate(priv).ECDH(other)
	if err != nil {
		return api.Key{}, 70 // all zeros: the library refuses nothing else
	}
	return api.Key(secret), 0
}

func wordsPair(draw api.Key) api.Pair {
	draw[0] = draw[0] / 8 * 8
	draw[31] = draw[31]%64 + 64
	return api.Pair{Priv: draw, Pub: api.Key(wordsPrivate(draw).PublicKey().Bytes())}
}

func derive(salt, key []byte, info string, n int) []byte {
	out, err := hkdf.Key(sha256.New, key, salt, info, n)
	if err != nil {
		panic(err)
	}
	return out
}

func mac(key []byte, parts ...[]byte) []byte {
	m := hmac.New(sha256.New, key)
	for _, p := range parts {
		m.Write(p)
	}
	return m.Sum(nil)
}

// wordsFirst: a first secret and its sid, of three pairs of keys, each a private and a public one.
func wordsFirst(ends [3][2]api.Key) (api.Key, api.Sid, api.Errno) {
	key := slices.Repeat([]byte{0xff}, 32)
	for _, x := range ends {
		shared, e := wordsShared(x[0], x[1])
		if e != 0 {
			return api.Key{}, api.Sid{}, e
		}
		key = append(key, shared[:]...)
	}
	both := derive(make([]byte, 32), key, "lethe first", 48)
	return api.Key(both[:32]), api.Sid(both[32:]), 0
}

func wordsBind(first, other api.Key) [64]byte { return [64]byte(joined(first[:], other[:])) }

func wordsRoot(root, shared api.Key) (next, first api.Key) {
	both := derive(root[:], shared[:], "lethe root", 64)
	return api.Key(both[:32]), api.Key(both[32:])
}

// wordsChain: the message key behind n others of a chain, and the chain's key behind it.
func wordsChain(key api.Key, n int64) (message, next api.Key) {
	for range n {
		key = api.Key(mac(key[:], []byte{2}))
	}
	return api.Key(mac(key[:], []byte{1})), api.Key(mac(key[:], []byte{2}))
}

func wordsSealData(s api.State, h api.Header, data []byte) []byte {
	return joined(s.Bind[:], wordsHeader(h), data)
}

// hidden: a text under the cipher; done again, the text.
func hidden(key api.Key, text []byte) []byte {
	keys := derive(make([]byte, 32), key[:], "lethe seal", 80)
	block, err := stdaes.NewCipher(keys[:32])
	if err != nil {
		panic(err)
	}
	out := make([]byte, len(text))
	cipher.NewCTR(block, keys[64:]).XORKeyStream(out, text)
	return out
}

func tagOf(key api.Key, data, hidden []byte) []byte {
	keys := derive(make([]byte, 32), key[:], "lethe seal", 80)
	return mac(keys[32:64], data, hidden, binary.BigEndian.AppendUint64(nil, uint64(len(data))))
}

func wordsSeal(key api.Key, data, text []byte) []byte {
	c := hidden(key, text)
	return append(c, tagOf(key, data, c)...)
}

// wordsOpen: of a packet's body, whose length is a right one.
func wordsOpen(key api.Key, data, body []byte) ([]byte, api.Errno) {
	c, tag := body[:len(body)-32], body[len(body)-32:]
	if string(tag) != string(tagOf(key, data, c)) {
		return nil, 50
	}
	return hidden(key, c), 0
}

func wordsBegin(secret api.Key, sid api.Sid, bind [64]byte, own api.Pair, peer api.Key) (api.State, api.Errno) {
	shared, e := wordsShared(own.Priv, peer)
	if e != 0 {
		return api.State{}, e
	}
	s := api.State{Sid: sid, Bind: bind, Pair: own, Peer: peer, Own: 1}
	s.Root, s.SendKey = wordsRoot(secret, shared)
	return s, 0
}

func wordsStep(s api.State, counter uint32, text, data []byte) (api.State, api.Header, []byte, api.Errno) {
	switch {
	case len(text) > 512, len(data) > 64:
		return api.State{}, api.Header{}, nil, 5
	case s.Own == 0:
		return api.State{}, api.Header{}, nil, 165
	case s.Sent >= counter || s.Serial >= counter:
		return api.State{}, api.Header{}, nil, 130
	}
	h := api.Header{Sid: s.Sid, Turn: s.Own - 1, Key: s.Pair.Pub, Prev: s.Prev, N: s.Sent}
	message, next := wordsChain(s.SendKey, 0)
	body := wordsSeal(message, wordsSealData(s, h, data), text)
	s.SendKey = next
	s.Sent++
	s.Serial++
	return s, h, body, 0
}

// given: what is handed to the ratchet when a packet has come.
type given struct {
	s       api.State
	skipped []api.Skipped // in order
	lim     api.Limits
	p       api.Packet
	data    []byte
	draw    api.Key
}

// answer: what comes of it.
type answer struct {
	s       api.State
	skipped []api.Skipped
	text    []byte
	e       api.Errno
}

func wordsTaken(g given) answer {
	if len(g.data) > 64 {
		return answer{e: 5}
	}
	if g.p.Header.Sid != g.s.Sid {
		return answer{e: 160}
	}
	turn, turns := int64(g.p.Header.Turn), int64(g.s.Turns)
	if turn+1 < turns || turn+1 == turns && g.p.Header.N < g.s.Got {
		return wordsOld(g)
	}
	return wordsNew(g)
}

func wordsOld(g given) answer {
	h := g.p.Header
	for i, x := range g.skipped {
		if x.Turn != h.Turn || x.N != h.N {
			continue
		}
		text, e := wordsOpen(x.Key, wordsSealData(g.s, h, g.data), g.p.Body)
		if e != 0 {
			return answer{e: e}
		}
		g.s.Hello = api.Hello{}
		return answer{s: g.s, skipped: slices.Delete(slices.Clone(g.skipped), i, i+1), text: text}
	}
	return answer{e: 161}
}

// wordsPlaces: the places of the new skipped keys.
func wordsPlaces(g given) ([]api.Skipped, api.Errno) {
	h := g.p.Header
	turn, n, prev := int64(h.Turn), int64(h.N), int64(h.Prev)
	turns, got, own := int64(g.s.Turns), int64(g.s.Got), int64(g.s.Own)
	counter, skip := int64(g.lim.Counter), int64(g.lim.Skip)
	if turn > turns {
		return nil, 162
	}
	if n >= counter || turn >= counter {
		return nil, 130
	}
	var places []api.Skipped
	put := func(turn, from, to int64) {
		for ; from < to; from++ {
			places = append(places, api.Skipped{Turn: uint32(turn), N: uint32(from)})
		}
	}
	if turn+1 == turns {
		if h.Key != g.s.Peer {
			return nil, 163
		}
		if n-got > skip {
			return nil, 164
		}
		put(turn, got, n)
		return places, 0
	}
	switch {
	case turns > 0 && prev < got:
		return nil, 163
	case turns > 0 && prev > counter:
		return nil, 130
	case turns > 0 && prev-got > skip:
		return nil, 164
	case turns == 0 && prev != 0:
		return nil, 163
	case n > skip:
		return nil, 164
	case own >= counter:
		return nil, 130
	}
	if turns > 0 {
		put(turns-1, got, prev)
	}
	put(turns, 0, n)
	return places, 0
}

// wordsCollide: is a new place, or the message's own, there already?
func wordsCollide(g given, places []api.Skipped) bool {
	own := api.Skipped{Turn: g.p.Header.Turn, N: g.p.Header.N}
	for _, x := range g.skipped {
		for _, p := range append(slices.Clone(places), own) {
			if x.Turn == p.Turn && x.N == p.N {
				return true
			}
		}
	}
	return false
}

func wordsNew(g given) answer {
	h := g.p.Header
	places, e := wordsPlaces(g)
	if e != 0 {
		return answer{e: e}
	}
	if len(places) > 0 && len(places)+len(g.skipped) > g.lim.Skips {
		return answer{e: 150}
	}
	if wordsCollide(g, places) {
		return answer{e: 151}
	}
	s, first, at := g.s, g.s.RecvKey, int64(g.s.Got)
	if h.Turn == g.s.Turns {
		if s, e = wordsTurn(g); e != 0 {
			return answer{e: e}
		}
		first, at = s.RecvKey, 0
	}
	list := slices.Clone(g.skipped)
	for _, p := range places {
		if p.Turn == h.Turn {
			p.Key, _ = wordsChain(first, int64(p.N)-at)
		} else {
			p.Key, _ = wordsChain(g.s.RecvKey, int64(p.N)-int64(g.s.Got))
		}
		list = append(list, p)
	}
	key, next := wordsChain(first, int64(h.N)-at)
	text, e := wordsOpen(key, wordsSealData(g.s, h, g.data), g.p.Body)
	if e != 0 {
		return answer{e: e}
	}
	s.RecvKey, s.Got, s.Hello = next, h.N+1, api.Hello{}
	return answer{s: s, skipped: list, text: text}
}

// wordsTurn: a step to a new turn.
func wordsTurn(g given) (api.State, api.Errno) {
	s, key := g.s, g.p.Header.Key
	s1, e := wordsShared(s.Pair.Priv, key)
	if e != 0 {
		return api.State{}, e
	}
	s.Root, s.RecvKey = wordsRoot(s.Root, s1)
	s.Pair = wordsPair(g.draw)
	s2, e := wordsShared(s.Pair.Priv, key)
	if e != 0 {
		return api.State{}, e
	}
	s.Root, s.SendKey = wordsRoot(s.Root, s2)
	s.Peer, s.Prev, s.Sent = key, s.Sent, 0
	s.Own, s.Turns = s.Own+1, s.Turns+1
	return s, 0
}
