package lethe

import (
	"slices"

	"lethe/api"
)

// argument: what stands in one place of a line, and so which of a step's fields it gives.
type argument int

const (
	none argument = iota // behind a word's last one
	node
	peer
	numberA
	draw
	other
	text
	data
	keep
	torn
	offset
)

const mostArguments = 6

const headWord = "room"

// word: what a line begins with, the kind of its step, and what stands behind it.
type word struct {
	name      string
	kind      int
	arguments [mostArguments]argument
}

var words = [...]word{
	{"create", api.StepCreate, [mostArguments]argument{node, numberA, draw}},
	{"publish", api.StepPublish, [mostArguments]argument{node, peer, draw}},
	{"initiate", api.StepInitiate, [mostArguments]argument{node, peer, draw, other, text, data}},
	{"send", api.StepSend, [mostArguments]argument{node, peer, text, data}},
	{"deliver", api.StepDeliver, [mostArguments]argument{numberA, draw, data}},
	{"drop", api.StepDrop, [mostArguments]argument{numberA}},
	{"copy", api.StepCopy, [mostArguments]argument{numberA}},
	{"ack", api.StepAck, [mostArguments]argument{node, peer, numberA}},
	{"replay", api.StepReplay, [mostArguments]argument{node, peer}},
	{"forget", api.StepForget, [mostArguments]argument{node, peer}},
	{"arm", api.StepArm, [mostArguments]argument{node, numberA, keep, torn, offset}},
	{"boot", api.StepBoot, [mostArguments]argument{node, numberA, keep, torn, offset}},
	{"close", api.StepClose, [mostArguments]argument{node}},
	{"junk", api.StepJunk, [mostArguments]argument{node, peer, text, draw, data}},
	{"status", api.StepStatus, [mostArguments]argument{node, peer}},
}

func wordNamed(name string) (word, bool) {
	for _, w := range words {
		if w.name == name {
			return w, true
		}
	}
	return word{}, false
}

func wordOfKind(kind int) (word, bool) {
	for _, w := range words {
		if w.kind == kind {
			return w, true
		}
	}
	return word{}, false
}

// count: how many arguments it has.
func (w word) count() int {
	n := slices.Index(w.arguments[:], none)
	if n < 0 {
		return mostArguments
	}
	return n
}

func (w word) has(a argument) bool { return slices.Contains(w.arguments[:], a) }
