package lethe

import (
	"math"
	"strings"

	"lethe/api"
)

// scenario: what a script says, and in which line its head stands (from 1 on; 0: none has come yet).
type scenario struct {
	nodes  int
	limits api.Limits
	steps  []api.Step
	head   int
}

// read: a script, or the line of its first fault and why.
func read(script string) (scenario, int, api.Errno) {
	if len(script) > api.MaxScript {
		return scenario{}, 0, api.ErrScript
	}
	var s scenario
	number, e := 0, api.OK
lines:
	for _, line := range strings.Split(script, "\n") {
		number++
		switch {
		case isSkipped(line):
			continue lines
		case s.head == 0:
			s.head = number
			s.nodes, s.limits, e = readHead(line)
		default:
			s.steps, e = readNext(s.steps, line)
		}
		if e != api.OK {
			break lines
		}
	}
	if e == api.OK && s.head == 0 {
		e = api.ErrScript
	}
	if e != api.OK {
		return scenario{}, number, e
	}
	return s, 0, api.OK
}

func isSkipped(line string) bool { return line == "" || line[0] == '#' }

const headNumbers = 7

// readHead: how many nodes, and the limits.
func readHead(line string) (int, api.Limits, api.Errno) {
	parts := strings.Split(line, " ")
	if parts[0] != headWord {
		return 0, api.Limits{}, api.ErrScript
	}
	given := parts[1:]
	if len(given) != headNumbers {
		return 0, api.Limits{}, api.ErrArg
	}
	var numbers [headNumbers]int
	for i, part := range given {
		n, right := readNumber(part)
		if !right {
			return 0, api.Limits{}, api.ErrArg
		}
		numbers[i] = n
	}
	counter := numbers[6]
	if counter < 0 || counter > math.MaxUint32 {
		return 0, api.Limits{}, api.ErrArg
	}
	lim := api.Limits{Peers: numbers[1], Prekeys: numbers[2], Skip: numbers[3], Skips: numbers[4], Outbox: numbers[5], Counter: uint32(counter)}
	return numbers[0], lim, api.OK
}

// readNext: the steps with one more; a line that is one too many is not looked at.
func readNext(steps []api.Step, line string) ([]api.Step, api.Errno) {
	if len(steps) == api.MaxSteps {
		return nil, api.ErrSteps
	}
	s, e := readStep(line)
	return append(steps, s), e
}

func readStep(line string) (api.Step, api.Errno) {
	parts := strings.Split(line, " ")
	w, there := wordNamed(parts[0])
	if !there {
		return api.Step{}, api.ErrWord
	}
	given := parts[1:]
	if len(given) != w.count() {
		return api.Step{}, api.ErrArg
	}
	s := api.Step{Kind: w.kind}
	for i, part := range given {
		if !give(&s, w.arguments[i], part) {
			return api.Step{}, api.ErrArg
		}
	}
	return s, api.OK
}

// give: an argument's field gets what is written there; false, if it is not what is asked for.
func give(s *api.Step, a argument, part string) bool {
	right := false
	switch a {
	case node:
		s.Node, right = readNumber(part)
	case peer:
		s.Peer, right = readNumber(part)
	case numberA:
		s.A, right = readNumber(part)
	case draw:
		s.Draw, right = readKey(part)
	case other:
		s.Other, right = readKey(part)
	case text:
		s.Text, right = readBytes(part)
	case data:
		s.Data, right = readBytes(part)
	case keep:
		s.Loss.Keep, right = readKeep(part)
	case torn:
		s.Loss.Torn, right = readNumber(part)
	case offset:
		s.Loss.Offset, right = readNumber(part)
	}
	return right
}
