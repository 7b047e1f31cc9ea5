package world

import (
	"slices"
	"strconv"

	"lethe/api"
	"lethe/client"
	"lethe/header"
	"lethe/sectors"
)

// The tables of a client's store that a view counts (chapter 22).
const (
	prekeyTable  = 3
	sessionTable = 4
	packetTable  = 6
)

// node: a client over its disk, and the bundles that it was handed. Neither a client's records nor its disk know of these, so they outlast a crash.
type node struct {
	disk    *sectors.Device // nil: it isn't created
	client  *client.Client  // the last that was made over the disk, ended or not
	bundles []bundle        // as they came
}

// bundle: whose it is, and its bytes.
type bundle struct {
	from  int
	bytes []byte
}

// nameOf: as whom every other node knows node k.
func nameOf(k int) string { return "node " + strconv.Itoa(k) }

func (n *node) created() bool { return n.disk != nil }

// ended: what its client answers, if it is an ended one; OK: it runs. The client is asked, so that there is one place alone that knows.
func (n *node) ended() api.Errno {
	_, _, err := n.client.Pages()
	return api.Code(err)
}

// view: all of it but the number.
func (n *node) view() api.View {
	if !n.created() {
		return api.View{}
	}
	list, err := n.client.Records()
	if err != nil {
		return api.View{Created: true}
	}
	_, used, _ := n.client.Pages()
	v := api.View{Up: true, Created: true, Pages: used}
	for _, r := range list {
		switch r.Table {
		case prekeyTable:
			v.Prekeys++
		case sessionTable:
			v.Peers++
		case packetTable:
			v.Unanswered++
		}
	}
	return v
}

// oldest: the index of the oldest bundle of node k that it holds, below 0 if it holds none.
func (n *node) oldest(k int) int {
	return slices.IndexFunc(n.bundles, func(b bundle) bool { return b.from == k })
}

// take: a packet comes as one of that node, with the step's draw and data; its text.
func (n *node) take(from int, packet []byte, s api.Step) ([]byte, error) {
	peer := nameOf(from)
	if n.isBeginning(peer, packet) {
		return n.client.Accept(peer, packet, s.Draw[:], s.Data)
	}
	return n.client.Receive(peer, packet, s.Draw[:], s.Data)
}

// isBeginning: would the packet begin a session with that peer?
func (n *node) isBeginning(peer string, packet []byte) bool {
	p, e := header.Unpack(packet)
	if e != api.OK || p.Kind != api.First {
		return false
	}
	_, err := n.client.Tell(peer)
	return api.Code(err) == api.ErrNoPeer
}
