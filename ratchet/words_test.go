package ratchet_test

import (
	stdaes "crypto/aes"
	"crypto/cipher"
	"crypto/ecdh"
	"crypto/hkdf"
	"crypto/hmac"
	"crypto/sha256"
	"encoding/binary"
	"slices"

	"lethe/api"
)

// The words: the machine made from the document's words, out of Go's own library alone. Numbers are int64s: none of the sums below wraps round.

// given: all that is handed to Receive.
type given struct {
	s          api.State
	skipped    []api.Skipped
	lim        api.Limits
	h          api.Header
	body, data []byte
	draw       api.Key
}

// answer: all that Receive answers.
type answer struct {
	s       api.State
	skipped []api.Skipped
	text    []byte
	e       api.Errno
}

func wordsShared(priv, pub api.Key) (api.Key, api.Errno) {
	own, err := ecdh.X25519().NewPrivateKey(priv[:])
	if err != nil {
		panic(err)
	}
	other, err := ecdh.X25519().NewPublicKey(pub[:])
	if err != nil {
		panic(err)
	}
	secret, err := own.ECDH(other)
	if err != nil {
		return api.Key{}, 70 // all zeros: the library refuses nothing else
	}
	return api.Key(secret), 0
}

func wordsPair(draw api.Key) api.Pair {
	draw[0] = draw[0] / 8 * 8
	draw[31] = draw[31]%64 + 64
	own, err := ecdh.X25519().NewPrivateKey(draw[:])
	if err != nil {
		panic(err)
	}
	return api.Pair{Priv: draw, Pub: api.Key(own.PublicKey().Bytes())}
}

func derive(salt, key []byte, info string, n int) []byte {
	out, err := hkdf.Key(sha256.New, key, salt, info, n)
	if err != nil {
		panic(err)
	}
	return out
}

func wordsRoot(root, shared api.Key) (next, first api.Key) {
	both := derive(root[:], shared[:], "lethe root", 64)
	return api.Key(both[:32]), api.Key(both[32:])
}

func mac(key []byte, parts ...[]byte) []byte {
	m := hmac.New(sha256.New, key)
	for _, p := range parts {
		m.Write(p)
	}
	return m.Sum(nil)
}

// wordsChain: the message key behind n others of a chain, and the chain's key behind it.
func wordsChain(key api.Key, n int64) (message, next api.Key) {
	for range n {
		key = api.Key(mac(key[:], []byte{2}))
	}
	return api.Key(mac(key[:], []byte{1})), api.Key(mac(key[:], []byte{2}))
}

// wordsSealData: Bind, the header's 60 bytes, the caller's data.
func wordsSealData(s api.State, h api.Header, data []byte) []byte {
	out := append([]byte(nil), s.Bind[:]...)
	out = append(out, h.Sid[:]...)
	out = binary.BigEndian.AppendUint32(out, h.Turn)
	out = append(out, h.Key[:]...)
	out = binary.BigEndian.AppendUint32(out, h.Prev)
	out = binary.BigEndian.AppendUint32(out, h.N)
	return append(out, data...)
}

// hidden: a text under the cipher; done again, the text.
func hidden(key api.Key, text []byte) []byte {
	keys := derive(make([]byte, 32), key[:], "lethe seal", 80)
	block, err := stdaes.NewCipher(keys[:32])
	if err != nil {
		panic(err)
	}
	out := make([]byte, len(text))
	cipher.NewCTR(block, keys[64:]).XORKeyStream(out, text)
	return out
}

func tagOf(key api.Key, data, hidden []byte) []byte {
	keys := derive(make([]byte, 32), key[:], "lethe seal", 80)
	return mac(keys[32:64], data, hidden, binary.BigEndian.AppendUint64(nil, uint64(len(data))))
}

func wordsSeal(key api.Key, data, text []byte) []byte {
	c := hidden(key, text)
	return append(c, tagOf(key, data, c)...)
}

func wordsOpen(key api.Key, data, body []byte) ([]byte, api.Errno) {
	if len(body) < 32 {
		return nil, 10
	}
	if len(body) > 544 {
		return nil, 5
	}
	c, tag := body[:len(body)-32], body[len(body)-32:]
	if string(tag) != string(tagOf(key, data, c)) {
		return nil, 50
	}
	return hidden(key, c), 0
}

func wordsBegin(secret api.Key, sid api.Sid, bind [64]byte, own api.Pair, peer api.Key) (api.State, api.Errno) {
	shared, e := wordsShared(own.Priv, peer)
	if e != 0 {
		return api.State{}, e
	}
	s := api.State{Sid: sid, Bind: bind, Pair: own, Peer: peer, Own: 1}
	s.Root, s.SendKey = wordsRoot(secret, shared)
	return s, 0
}

func wordsSend(s api.State, counter uint32, text, data []byte) (api.State, api.Header, []byte, api.Errno) {
	switch {
	case len(text) > 512:
		return api.State{}, api.Header{}, nil, 5
	case len(data) > 64:
		return api.State{}, api.Header{}, nil, 5
	case s.Own == 0:
		return api.State{}, api.Header{}, nil, 165
	case s.Sent >= counter || s.Serial >= counter:
		return api.State{}, api.Header{}, nil, 130
	}
	h := api.Header{Sid: s.Sid, Turn: s.Own - 1, Key: s.Pair.Pub, Prev: s.Prev, N: s.Sent}
	message, next := wordsChain(s.SendKey, 0)
	body := wordsSeal(message, wordsSealData(s, h, data), text)
	s.SendKey = next
	s.Sent++
	s.Serial++
	return s, h, body, 0
}

// samePlace: are they under one turn and number?
func samePlace(a, b api.Skipped) bool { return a.Turn == b.Turn && a.N == b.N }

func above(a, b api.Skipped) bool { return a.Turn > b.Turn || a.Turn == b.Turn && a.N > b.N }

// wordsReceive: steps 1 and 2.
func wordsReceive(g given) answer {
	if g.lim.Skip < 0 || g.lim.Skip > 64 || g.lim.Skips < 0 || g.lim.Skips > 256 {
		return answer{e: 2}
	}
	if len(g.data) > 64 {
		return answer{e: 5}
	}
	for i := 1; i < len(g.skipped); i++ {
		if !above(g.skipped[i], g.skipped[i-1]) {
			return answer{e: 111}
		}
	}
	if string(g.h.Sid[:]) != string(g.s.Sid[:]) {
		return answer{e: 160}
	}
	turn, turns := int64(g.h.Turn), int64(g.s.Turns)
	if turn+1 < turns || turn+1 == turns && g.h.N < g.s.Got {
		return wordsOld(g)
	}
	return wordsNew(g)
}

func wordsOld(g given) answer {
	for i, x := range g.skipped {
		if x.Turn != g.h.Turn || x.N != g.h.N {
			continue
		}
		text, e := wordsOpen(x.Key, wordsSealData(g.s, g.h, g.data), g.body)
		if e != 0 {
			return answer{e: e}
		}
		g.s.Hello = api.Hello{}
		return answer{s: g.s, skipped: slices.Delete(slices.Clone(g.skipped), i, i+1), text: text}
	}
	return answer{e: 161}
}

// wordsPlaces: steps 3 to 5: the places of the new skipped keys.
func wordsPlaces(g given) ([]api.Skipped, api.Errno) {
	turn, n, prev := int64(g.h.Turn), int64(g.h.N), int64(g.h.Prev)
	turns, got, own := int64(g.s.Turns), int64(g.s.Got), int64(g.s.Own)
	counter, skip := int64(g.lim.Counter), int64(g.lim.Skip)
	if turn > turns {
		return nil, 162
	}
	if n >= counter || turn >= counter {
		return nil, 130
	}
	var places []api.Skipped
	put := func(turn, from, to int64) {
		for ; from < to; from++ {
			places = append(places, api.Skipped{Turn: uint32(turn), N: uint32(from)})
		}
	}
	if turn+1 == turns {
		if g.h.Key != g.s.Peer {
			return nil, 163
		}
		if n-got > skip {
			return nil, 164
		}
		put(turn, got, n)
		return places, 0
	}
	switch {
	case turns > 0 && prev < got:
		return nil, 163
	case turns > 0 && prev > counter:
		return nil, 130
	case turns > 0 && prev-got > skip:
		return nil, 164
	case turns == 0 && prev != 0:
		return nil, 163
	case n > skip:
		return nil, 164
	case own >= counter:
		return nil, 130
	}
	if turns > 0 {
		put(turns-1, got, prev)
	}
	put(turns, 0, n)
	return places, 0
}

// wordsNew: steps 3 to 8.
func wordsNew(g given) answer {
	places, e := wordsPlaces(g)
	if e != 0 {
		return answer{e: e}
	}
	if len(places) > 0 && len(places)+len(g.skipped) > g.lim.Skips {
		return answer{e: 150}
	}
	for _, x := range g.skipped {
		for _, p := range append(slices.Clone(places), api.Skipped{Turn: g.h.Turn, N: g.h.N}) {
			if samePlace(x, p) {
				return answer{e: 151}
			}
		}
	}
	s, first, at := g.s, g.s.RecvKey, int64(g.s.Got)
	if g.h.Turn == g.s.Turns {
		if s, e = wordsTurn(g); e != 0 {
			return answer{e: e}
		}
		first, at = s.RecvKey, 0
	}
	list := slices.Clone(g.skipped)
	for _, p := range places {
		if p.Turn == g.h.Turn {
			p.Key, _ = wordsChain(first, int64(p.N)-at)
		} else {
			p.Key, _ = wordsChain(g.s.RecvKey, int64(p.N)-int64(g.s.Got))
		}
		list = placed(list, p)
	}
	key, next := wordsChain(first, int64(g.h.N)-at)
	text, e := wordsOpen(key, wordsSealData(g.s, g.h, g.data), g.body)
	if e != 0 {
		return answer{e: e}
	}
	s.RecvKey, s.Got, s.Hello = next, g.h.N+1, api.Hello{}
	return answer{s: s, skipped: list, text: text}
}

// wordsTurn: step 7.
func wordsTurn(g given) (api.State, api.Errno) {
	s := g.s
	s1, e := wordsShared(s.Pair.Priv, g.h.Key)
	if e != 0 {
		return api.State{}, e
	}
	s.Root, s.RecvKey = wordsRoot(s.Root, s1)
	s.Pair = wordsPair(g.draw)
	s2, e := wordsShared(s.Pair.Priv, g.h.Key)
	if e != 0 {
		return api.State{}, e
	}
	s.Root, s.SendKey = wordsRoot(s.Root, s2)
	s.Peer, s.Prev, s.Sent = g.h.Key, s.Sent, 0
	s.Own, s.Turns = s.Own+1, s.Turns+1
	return s, 0
}

// placed: a list in order, and one more at its place.
func placed(list []api.Skipped, x api.Skipped) []api.Skipped {
	at := 0
	for at < len(list) && above(x, list[at]) {
		at++
	}
	return slices.Insert(list, at, x)
}

// fitting: a body that opens at the header's place, made without a sender: of the skipped key, or of the chain that the receiver's state leads to. Of a place far away, or without a key, it is any.
func fitting(g given, text []byte) []byte {
	data := wordsSealData(g.s, g.h, g.data)
	for _, x := range g.skipped {
		if x.Turn == g.h.Turn && x.N == g.h.N {
			return wordsSeal(x.Key, data, text)
		}
	}
	first, n := g.s.RecvKey, int64(g.h.N)-int64(g.s.Got)
	if g.h.Turn == g.s.Turns {
		shared, _ := wordsShared(g.s.Pair.Priv, g.h.Key)
		_, first = wordsRoot(g.s.Root, shared)
		n = int64(g.h.N)
	}
	if n < 0 || n > 300 {
		n = 0
	}
	key, _ := wordsChain(first, n)
	return wordsSeal(key, data, text)
}
