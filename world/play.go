package world

import "lethe/api"

// need: what must be there ahead of a step's own doing. Each asks for what the ones ahead of it ask for, and more.
type need int

const (
	noNode      need = iota // it names no node
	someNode                // Node is a node
	createdNode             // which is created
	runningNode             // and whose client is open
	runningPair             // and Peer is another node
)

// doing: a kind of steps.
type doing struct {
	needs need
	do    func(w *World, s api.Step) api.Answer
}

// doingOf: of a kind; ErrStep, if it is none.
func doingOf(kind int) (doing, api.Errno) {
	table := [...]doing{
		api.StepCreate:   {someNode, (*World).create},
		api.StepPublish:  {runningPair, (*World).publish},
		api.StepInitiate: {runningPair, (*World).initiate},
		api.StepSend:     {runningPair, (*World).send},
		api.StepDeliver:  {noNode, (*World).deliver},
		api.StepDrop:     {noNode, (*World).drop},
		api.StepCopy:     {noNode, (*World).double},
		api.StepAck:      {runningPair, (*World).ack},
		api.StepReplay:   {runningPair, (*World).replay},
		api.StepForget:   {runningPair, (*World).forget},
		api.StepArm:      {createdNode, (*World).arm},
		api.StepBoot:     {createdNode, (*World).boot},
		api.StepClose:    {runningNode, (*World).close},
		api.StepJunk:     {runningPair, (*World).junk},
		api.StepStatus:   {runningPair, (*World).status},
	}
	if kind < api.StepCreate || kind >= len(table) {
		return doing{}, api.ErrStep
	}
	return table[kind], api.OK
}

// Play: one step.
func (w *World) Play(s api.Step) api.Answer {
	d, e := doingOf(s.Kind)
	if e != api.OK {
		return justCode(e)
	}
	if e := w.lacking(d.needs, s); e != api.OK {
		return justCode(e)
	}
	return d.do(w, s)
}

// lacking: the first thing that a step needs and has not. Both numbers are looked at ahead of what the node is.
func (w *World) lacking(needs need, s api.Step) api.Errno {
	switch {
	case needs >= someNode && !w.isNode(s.Node):
		return api.ErrNode
	case needs >= runningPair && (!w.isNode(s.Peer) || s.Peer == s.Node):
		return api.ErrNode
	case needs >= createdNode && !w.node(s.Node).created():
		return api.ErrNot
	case needs >= runningNode:
		return w.node(s.Node).ended()
	}
	return api.OK
}

// justCode: an answer that tells nothing else.
func justCode(e api.Errno) api.Answer { return api.Answer{Code: e} }

// settled: the answer of a client's call that tells nothing but its error.
func settled(err error) api.Answer { return justCode(api.Code(err)) }
