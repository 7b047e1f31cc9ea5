package lethe

import (
	"strings"

	"lethe/api"
)

// lineOf: a line of these parts, ended.
func lineOf(parts ...string) string { return strings.Join(parts, " ") + "\n" }

func headLine(nodes int, lim api.Limits) (string, api.Errno) {
	parts := []string{headWord}
	for _, n := range [...]int{nodes, lim.Peers, lim.Prekeys, lim.Skip, lim.Skips, lim.Outbox, int(lim.Counter)} {
		part, fits := writeNumber(n)
		if !fits {
			return "", api.ErrArg
		}
		parts = append(parts, part)
	}
	return lineOf(parts...), api.OK
}

func stepLine(s api.Step) (string, api.Errno) {
	w, there := wordOfKind(s.Kind)
	if !there {
		return "", api.ErrStep
	}
	if hasExtra(s, w) {
		return "", api.ErrExtra
	}
	parts := []string{w.name}
	for _, a := range w.arguments[:w.count()] {
		part, fits := write(s, a)
		if !fits {
			return "", api.ErrArg
		}
		parts = append(parts, part)
	}
	return lineOf(parts...), api.OK
}

// hasExtra: whether the step says something that its line would lose.
func hasExtra(s api.Step, w word) bool {
	for a := node; a <= offset; a++ {
		if !w.has(a) && !isZero(s, a) {
			return true
		}
	}
	return s.B != 0 // no word has it
}

func isZero(s api.Step, a argument) bool {
	switch a {
	case node:
		return s.Node == 0
	case peer:
		return s.Peer == 0
	case numberA:
		return s.A == 0
	case draw:
		return s.Draw == api.Key{}
	case other:
		return s.Other == api.Key{}
	case text:
		return len(s.Text) == 0
	case data:
		return len(s.Data) == 0
	case keep:
		return len(s.Loss.Keep) == 0
	case torn:
		return s.Loss.Torn == 0
	case offset:
		return s.Loss.Offset == 0
	}
	return true
}

// write: an argument as its field has it; false, if that can't be written.
func write(s api.Step, a argument) (string, bool) {
	switch a {
	case node:
		return writeNumber(s.Node)
	case peer:
		return writeNumber(s.Peer)
	case numberA:
		return writeNumber(s.A)
	case draw:
		return writeKey(s.Draw), true
	case other:
		return writeKey(s.Other), true
	case text:
		return writeBytes(s.Text), true
	case data:
		return writeBytes(s.Data), true
	case keep:
		return writeKeep(s.Loss.Keep), true
	case torn:
		return writeNumber(s.Loss.Torn)
	case offset:
		return writeNumber(s.Loss.Offset)
	}
	return "", false
}
