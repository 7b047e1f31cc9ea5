package ratchet

import (
	"slices"

	"lethe/api"
	"lethe/chain"
	"lethe/curve"
	"lethe/seal"
)

// message: what came, and the data that its seal was bound to.
type message struct {
	header     api.Header
	body, data []byte
}

func (m message) open(key api.Key) ([]byte, api.Errno) { return seal.Open(key, m.data, m.body) }

// Receive: a message: the state and the skipped keys behind it, its text. skipped: those from before, in order.
func Receive(s api.State, skipped []api.Skipped, lim api.Limits, h api.Header, body, data []byte, draw api.Key) (api.State, []api.Skipped, []byte, api.Errno) {
	if e := checkGiven(s, skipped, lim, h, data); e != api.OK {
		return api.State{}, nil, nil, e
	}
	m := message{header: h, body: body, data: sealData(s, h, data)}
	if isOld(s, h) {
		return receiveOld(s, skipped, m)
	}
	g, e := gapsAhead(s, lim, h)
	if e != api.OK {
		return api.State{}, nil, nil, e
	}
	if e := g.check(skipped, lim.Skips, h); e != api.OK {
		return api.State{}, nil, nil, e
	}
	return receiveNew(s, skipped, g, m, draw)
}

// checkGiven: what can be told ahead of any look at the message's place.
func checkGiven(s api.State, skipped []api.Skipped, lim api.Limits, h api.Header, data []byte) api.Errno {
	switch {
	case lim.Skip < 0, lim.Skip > api.MaxSkip, lim.Skips < 0, lim.Skips > api.MaxSkips:
		return api.ErrLimits
	case len(data) > api.MaxData:
		return api.ErrLong
	case !inOrder(skipped):
		return api.ErrOrder
	case h.Sid != s.Sid:
		return api.ErrSession
	}
	return api.OK
}

// isOld: does the message belong to a turn that is over, or to a number that the chain has passed? Then no chain leads to its key any more.
func isOld(s api.State, h api.Header) bool {
	if h.Turn >= s.Turns {
		return false
	}
	return h.Turn < s.Turns-1 || h.N < s.Got
}

// receiveOld: a message whose key is a skipped one, or gone. Of its header just the place is looked at: the tag binds the rest.
func receiveOld(s api.State, skipped []api.Skipped, m message) (api.State, []api.Skipped, []byte, api.Errno) {
	at, there := find(skipped, m.header.Turn, m.header.N)
	if !there {
		return api.State{}, nil, nil, api.ErrOld
	}
	text, e := m.open(skipped[at].Key)
	if e != api.OK {
		return api.State{}, nil, nil, e
	}
	next := s
	next.Hello = api.Hello{}
	return next, slices.Concat(skipped[:at], skipped[at+1:]), text, api.OK
}

// receiveNew: a message whose key is still ahead: in the chain that goes on, or in one that begins with it.
func receiveNew(s api.State, skipped []api.Skipped, g gaps, m message, draw api.Key) (api.State, []api.Skipped, []byte, api.Errno) {
	next := s
	_, ended := g.ended.keys(s.RecvKey) // not by next's: behind a step that is the new turn's chain
	if m.header.Turn == s.Turns {
		var e api.Errno
		if next, e = step(s, m.header.Key, draw); e != api.OK {
			return api.State{}, nil, nil, e
		}
	}
	at, own := g.own.keys(next.RecvKey)
	behind, key := chain.Step(at)
	text, e := m.open(key)
	if e != api.OK {
		return api.State{}, nil, nil, e
	}
	next.RecvKey = behind
	next.Got = m.header.N + 1
	next.Hello = api.Hello{}
	return next, sorted(skipped, ended, own), text, api.OK
}

// step: a new turn of the peer under its key: a chain for receiving, then an own turn, with a pair of the draw and a chain for sending.
func step(s api.State, key, draw api.Key) (api.State, api.Errno) {
	root, receiving, e := newChain(s.Root, s.Pair.Priv, key)
	if e != api.OK {
		return api.State{}, e
	}
	// A draw that is a Key has the bytes that it must have: it is never refused.
	pair, _ := curve.NewPair(draw[:])
	root, sending, e := newChain(root, pair.Priv, key)
	if e != api.OK {
		return api.State{}, e
	}
	next := s
	next.Root, next.Pair, next.Peer = root, pair, key
	next.RecvKey, next.SendKey = receiving, sending
	next.Prev, next.Sent = s.Sent, 0
	next.Own++
	next.Turns++
	return next, api.OK
}
