package session_test

import (
	"slices"

	"lethe/api"
)

// The words of chapter 21: of a list of records the list behind a call, and its answers.

func wordsName(peer string) api.Errno {
	if len(peer) < 1 || len(peer) > 16 {
		return 212
	}
	return 0
}

// wordsAhead: of an open transaction, what goes ahead of all else in a call that takes a peer.
func wordsAhead(list []api.Record, peer string) (api.Limits, api.Errno) {
	if e := wordsName(peer); e != 0 {
		return api.Limits{}, e
	}
	return wordsLimits(list)
}

func wordsStateOf(list []api.Record, peer string) (api.State, api.Errno) {
	b, there := wordsGet(list, 4, wordsPeer(peer))
	if !there {
		return api.State{}, 211
	}
	s, right := wordsDecode(b)
	if !right {
		return api.State{}, 180
	}
	return s, 0
}

func wordsSkipped(list []api.Record, peer string) ([]api.Skipped, api.Errno) {
	var some []api.Skipped
	for _, r := range wordsUnder(list, 5, wordsPeer(peer)) {
		place := r.Key[1+len(peer):]
		if len(place) != 8 || len(r.Value) != 32 {
			return nil, 180
		}
		some = append(some, api.Skipped{Turn: wordsNumber(place[:4]), N: wordsNumber(place[4:]), Key: api.Key(r.Value)})
	}
	return some, 0
}

func wordsSkippedKey(peer string, x api.Skipped) []byte {
	return joined(wordsPeer(peer), four(x.Turn), four(x.N))
}

func wordsRoom(list []api.Record, lim api.Limits, peer string) api.Errno {
	if _, there := wordsGet(list, 4, wordsPeer(peer)); there {
		return 210
	}
	if len(wordsUnder(list, 4, nil)) >= lim.Peers {
		return 213
	}
	return 0
}

// wordsSent: P21.6 from the step of the ratchet on.
func wordsSent(list []api.Record, lim api.Limits, peer string, s api.State, text, data []byte) ([]api.Record, []byte, api.Errno) {
	next, h, body, e := wordsStep(s, lim.Counter, text, data)
	if e != 0 {
		return list, nil, e
	}
	packet, e := wordsPack(s.Hello, h, body)
	if e != 0 {
		return list, nil, e
	}
	value, e := wordsEncode(next)
	if e != 0 {
		return list, nil, e
	}
	behind, e := wordsOutboxPut(list, peer, s.Serial, packet, lim.Outbox)
	if e != 0 {
		return list, nil, e
	}
	return wordsPut(behind, rec(4, wordsPeer(peer), value)), packet, 0
}

// wordsInitiate: P21.4.
func wordsInitiate(list []api.Record, peer string, bundle []byte, once, turn api.Key, text, data []byte) ([]api.Record, []byte, api.Errno) {
	lim, e := wordsAhead(list, peer)
	if e != 0 {
		return list, nil, e
	}
	if e := wordsRoom(list, lim, peer); e != 0 {
		return list, nil, e
	}
	offer, e := wordsReadOffer(bundle)
	if e != 0 {
		return list, nil, e
	}
	own, e := wordsIdentity(list)
	if e != 0 {
		return list, nil, e
	}
	pair := wordsPair(once)
	secret, sid, e := wordsFirst([3][2]api.Key{{own.Priv, offer.Key}, {pair.Priv, offer.Identity}, {pair.Priv, offer.Key}})
	if e != 0 {
		return list, nil, e
	}
	s, e := wordsBegin(secret, sid, wordsBind(own.Pub, offer.Identity), wordsPair(turn), offer.Key)
	if e != 0 {
		return list, nil, e
	}
	s.Hello = api.Hello{Identity: own.Pub, Once: pair.Pub, Prekey: offer.Prekey}
	return wordsSent(list, lim, peer, s, text, data)
}

// wordsMeet: of P21.5 what comes ahead of the ratchet: the state ahead of the packet.
func wordsMeet(list []api.Record, hello api.Hello) (api.State, api.Errno) {
	own, e := wordsIdentity(list)
	if e != 0 {
		return api.State{}, e
	}
	prekey, e := wordsFind(list, hello.Prekey)
	if e != 0 {
		return api.State{}, e
	}
	secret, sid, e := wordsFirst([3][2]api.Key{{prekey.Priv, hello.Identity}, {own.Priv, hello.Once}, {prekey.Priv, hello.Once}})
	if e != 0 {
		return api.State{}, e
	}
	return api.State{Sid: sid, Bind: wordsBind(hello.Identity, own.Pub), Pair: prekey, Root: secret}, 0
}

// wordsAccept: P21.5.
func wordsAccept(list []api.Record, peer string, packet []byte, turn api.Key, data []byte) ([]api.Record, []byte, api.Errno) {
	lim, e := wordsAhead(list, peer)
	if e != 0 {
		return list, nil, e
	}
	if e := wordsRoom(list, lim, peer); e != 0 {
		return list, nil, e
	}
	p, e := wordsUnpack(packet)
	if e != 0 {
		return list, nil, e
	}
	if p.Kind != 1 {
		return list, nil, 141
	}
	s, e := wordsMeet(list, p.Hello)
	if e != 0 {
		return list, nil, e
	}
	a := wordsTaken(given{s: s, lim: lim, p: p, data: data, draw: turn})
	if a.e != 0 {
		return list, nil, a.e
	}
	value, e := wordsEncode(a.s)
	if e != 0 {
		return list, nil, e
	}
	list = wordsPut(wordsDelete(list, 3, four(p.Hello.Prekey)), rec(4, wordsPeer(peer), value))
	for _, x := range a.skipped {
		list = wordsPut(list, rec(5, wordsSkippedKey(peer, x), slices.Clone(x.Key[:])))
	}
	return list, a.text, 0
}

// wordsSend: P21.6.
func wordsSend(list []api.Record, peer string, text, data []byte) ([]api.Record, uint32, []byte, api.Errno) {
	lim, e := wordsAhead(list, peer)
	if e != 0 {
		return list, 0, nil, e
	}
	s, e := wordsStateOf(list, peer)
	if e != 0 {
		return list, 0, nil, e
	}
	list, packet, e := wordsSent(list, lim, peer, s, text, data)
	if e != 0 {
		return list, 0, nil, e
	}
	return list, s.Serial, packet, 0
}

// wordsReceive: P21.7.
func wordsReceive(list []api.Record, peer string, packet []byte, turn api.Key, data []byte) ([]api.Record, []byte, api.Errno) {
	lim, e := wordsAhead(list, peer)
	if e != 0 {
		return list, nil, e
	}
	s, e := wordsStateOf(list, peer)
	if e != 0 {
		return list, nil, e
	}
	skipped, e := wordsSkipped(list, peer)
	if e != 0 {
		return list, nil, e
	}
	p, e := wordsUnpack(packet)
	if e != 0 {
		return list, nil, e
	}
	a := wordsTaken(given{s: s, skipped: skipped, lim: lim, p: p, data: data, draw: turn})
	if a.e != 0 {
		return list, nil, a.e
	}
	value, e := wordsEncode(a.s)
	if e != 0 {
		return list, nil, e
	}
	list = wordsPut(list, rec(4, wordsPeer(peer), value))
	for _, x := range skipped {
		list = wordsDelete(list, 5, wordsSkippedKey(peer, x))
	}
	for _, x := range a.skipped {
		list = wordsPut(list, rec(5, wordsSkippedKey(peer, x), slices.Clone(x.Key[:])))
	}
	return list, a.text, 0
}

// wordsForget: P21.8.
func wordsForget(list []api.Record, peer string) ([]api.Record, api.Errno) {
	if _, e := wordsAhead(list, peer); e != 0 {
		return list, e
	}
	if _, there := wordsGet(list, 4, wordsPeer(peer)); !there {
		return list, 211
	}
	behind, e := wordsDrop(list, peer)
	if e != 0 {
		return list, e
	}
	for _, r := range wordsUnder(list, 5, wordsPeer(peer)) {
		behind = wordsDelete(behind, 5, r.Key)
	}
	return wordsDelete(behind, 4, wordsPeer(peer)), 0
}

// wordsPeers: P21.9.
func wordsPeers(list []api.Record) ([]string, api.Errno) {
	if _, e := wordsLimits(list); e != 0 {
		return nil, e
	}
	var names []string
	for _, r := range wordsUnder(list, 4, nil) {
		name := string(r.Key[1:])
		if string(wordsPeer(name)) != string(r.Key) || wordsName(name) != 0 {
			return nil, 180
		}
		names = append(names, name)
	}
	return names, 0
}

// wordsTell: P21.10.
func wordsTell(list []api.Record, peer string) (api.Status, api.Errno) {
	if _, e := wordsAhead(list, peer); e != 0 {
		return api.Status{}, e
	}
	s, e := wordsStateOf(list, peer)
	if e != 0 {
		return api.Status{}, e
	}
	skipped, e := wordsSkipped(list, peer)
	if e != 0 {
		return api.Status{}, e
	}
	own, e := wordsIdentity(list)
	if e != 0 {
		return api.Status{}, e
	}
	mails, e := wordsMails(list, peer)
	if e != 0 {
		return api.Status{}, e
	}
	identity := s.Bind[:32]
	if string(identity) == string(own.Pub[:]) {
		identity = s.Bind[32:]
	}
	return api.Status{Peer: peer, Identity: api.Key(identity), Sid: s.Sid, Own: s.Own, Turns: s.Turns, Sent: s.Sent, Got: s.Got, Skipped: len(skipped), Unanswered: len(mails)}, 0
}
