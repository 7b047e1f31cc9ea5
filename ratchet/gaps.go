package ratchet

import (
	"cmp"
	"slices"

	"lethe/api"
	"lethe/chain"
)

// gap: numbers of one turn whose messages haven't come: from first on, ahead of end.
type gap struct {
	turn, first, end uint32
}

// gaps: those that a message leaves behind it: in the turn that it ends (an empty one, if it ends none), and in its own.
type gaps struct {
	ended, own gap
}

// gapsAhead: of a message that isn't old. No gap that is answered has more than Skip numbers, so that a peer can't make anybody derive keys without end.
func gapsAhead(s api.State, lim api.Limits, h api.Header) (gaps, api.Errno) {
	switch {
	case h.Turn > s.Turns:
		return gaps{}, api.ErrTurn
	case h.N >= lim.Counter, h.Turn >= lim.Counter:
		return gaps{}, api.ErrCounter
	case h.Turn == s.Turns:
		return newTurn(s, lim, h)
	}
	return sameTurn(s, lim, h)
}

func sameTurn(s api.State, lim api.Limits, h api.Header) (gaps, api.Errno) {
	g := gaps{own: gap{turn: h.Turn, first: s.Got, end: h.N}}
	switch {
	case h.Key != s.Peer:
		return gaps{}, api.ErrHeader
	case g.own.count() > int64(lim.Skip):
		return gaps{}, api.ErrSkip
	}
	return g, api.OK
}

func newTurn(s api.State, lim api.Limits, h api.Header) (gaps, api.Errno) {
	ended, e := endedTurn(s, lim, h)
	if e != api.OK {
		return gaps{}, e
	}
	g := gaps{ended: ended, own: gap{turn: h.Turn, end: h.N}}
	switch {
	case g.own.count() > int64(lim.Skip):
		return gaps{}, api.ErrSkip
	case s.Own >= lim.Counter:
		return gaps{}, api.ErrCounter
	}
	return g, api.OK
}

// endedTurn: the gap up to the end of the turn that a new one ends; the header's Prev tells where that is.
func endedTurn(s api.State, lim api.Limits, h api.Header) (gap, api.Errno) {
	if s.Turns == 0 {
		if h.Prev != 0 {
			return gap{}, api.ErrHeader
		}
		return gap{}, api.OK
	}
	if h.Prev < s.Got {
		return gap{}, api.ErrHeader
	}
	if h.Prev > lim.Counter {
		return gap{}, api.ErrCounter
	}
	g := gap{turn: s.Turns - 1, first: s.Got, end: h.Prev}
	if g.count() > int64(lim.Skip) {
		return gap{}, api.ErrSkip
	}
	return g, api.OK
}

// check: is there room for the new skipped keys, and is none of them, nor the message's own, there already?
func (g gaps) check(skipped []api.Skipped, most int, h api.Header) api.Errno {
	count := g.ended.count() + g.own.count()
	if count > 0 && int64(len(skipped)) > int64(most)-count {
		return api.ErrSkips
	}
	for _, x := range skipped {
		if g.ended.holds(x) || g.own.holds(x) || x.Turn == h.Turn && x.N == h.N {
			return api.ErrTwice
		}
	}
	return api.OK
}

func (g gap) count() int64 { return int64(g.end) - int64(g.first) }

func (g gap) holds(x api.Skipped) bool {
	return x.Turn == g.turn && x.N >= g.first && x.N < g.end
}

// keys: the gap's keys, by the chain's key at its beginning; next is the chain's key at its end.
func (g gap) keys(key api.Key) (next api.Key, list []api.Skipped) {
	// A gap has at most MaxSkip numbers: so few steps are never refused.
	next, messages, _ := chain.Ahead(key, int(g.count()))
	for i, k := range messages {
		list = append(list, api.Skipped{Turn: g.turn, N: g.first + uint32(i), Key: k})
	}
	return next, list
}

// byPlace: -1, 0, 1: by turns, then by numbers.
func byPlace(a, b api.Skipped) int {
	return cmp.Or(cmp.Compare(a.Turn, b.Turn), cmp.Compare(a.N, b.N))
}

// inOrder: does each place stand above the one ahead of it?
func inOrder(list []api.Skipped) bool {
	for i := 1; i < len(list); i++ {
		if byPlace(list[i-1], list[i]) >= 0 {
			return false
		}
	}
	return true
}

// find: where a list in order has a place.
func find(list []api.Skipped, turn, n uint32) (at int, there bool) {
	return slices.BinarySearchFunc(list, api.Skipped{Turn: turn, N: n}, byPlace)
}

// sorted: all of the lists in one, which is in order.
func sorted(lists ...[]api.Skipped) []api.Skipped {
	all := slices.Concat(lists...)
	slices.SortFunc(all, byPlace)
	return all
}
