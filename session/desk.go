package session

import (
	"slices"

	"lethe/api"
	"lethe/keyring"
	"lethe/state"
	"lethe/store"
)

// desk: what a call for one peer works on.
type desk struct {
	t      *store.Tx
	peer   string
	bytes  []byte // the peer's
	limits api.Limits
}

// deskOf: what every call looks at ahead of all else. A transaction tells that it is not open by refusing a Get alone; keyring tells it too, but the name goes ahead of what else keyring tells.
func deskOf(t *store.Tx, peer string) desk {
	if t == nil {
		giveUp(api.ErrHandle)
	}
	if _, e := t.Get(sessionTable, nil); e == api.ErrDone {
		giveUp(api.ErrDone)
	}
	demand(Name(peer))
	return desk{t: t, peer: peer, bytes: peerBytes(peer), limits: must(keyring.Limits(t))}
}

func (d desk) hasSession() bool {
	_, e := d.t.Get(sessionTable, d.bytes)
	return e == api.OK
}

// demandRoom: a new session needs a name that is free, and room.
func (d desk) demandRoom() {
	if d.hasSession() {
		giveUp(api.ErrPeer)
	}
	if len(slices.Collect(d.t.Scan(sessionTable, nil))) >= d.limits.Peers {
		giveUp(api.ErrPeers)
	}
}

func (d desk) state() api.State {
	value, e := d.t.Get(sessionTable, d.bytes)
	if e != api.OK {
		giveUp(api.ErrNoPeer)
	}
	s, e := state.Decode(value)
	if e != api.OK {
		giveUp(api.ErrState)
	}
	return s
}

// skipped: the session's skipped keys, in order: keys of one length stand in the order of their turns and numbers.
func (d desk) skipped() []api.Skipped {
	var list []api.Skipped
	for _, r := range slices.Collect(d.t.Scan(skippedTable, d.bytes)) {
		list = append(list, readSkipped(d.bytes, r))
	}
	return list
}

// otherOf: of the two identities that a session binds the one that is not the client's own.
func otherOf(bind [64]byte, own api.Key) api.Key {
	first, other := api.Key(bind[:keySize]), api.Key(bind[keySize:])
	if first == own {
		return other
	}
	return first
}
