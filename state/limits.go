package state

import (
	"lethe/api"
	"lethe/wire"
)

const limitsSize = 5*2 + 4

// CheckLimits: may they be a client's limits?
func CheckLimits(l api.Limits) api.Errno {
	switch {
	case !within(l.Peers, 1, api.MaxPeers),
		!within(l.Prekeys, 1, api.MaxPrekeys),
		!within(l.Skip, 0, api.MaxSkip),
		!within(l.Skips, 0, api.MaxSkips),
		!within(l.Outbox, 1, api.MaxOutbox),
		l.Counter == 0:
		return api.ErrLimits
	}
	return api.OK
}

func within(n, least, most int) bool { return n >= least && n <= most }

// EncodeLimits: a client's limits as bytes.
func EncodeLimits(l api.Limits) ([]byte, api.Errno) {
	if e := CheckLimits(l); e != api.OK {
		return nil, e
	}
	w, _ := wire.NewWriter(limitsSize)
	w.U16(l.Peers)
	w.U16(l.Prekeys)
	w.U16(l.Skip)
	w.U16(l.Skips)
	w.U16(l.Outbox)
	w.U32(l.Counter)
	return w.Out()
}

// DecodeLimits: back.
func DecodeLimits(b []byte) (l api.Limits, e api.Errno) {
	r := wire.NewReader(b)
	defer tell(r, &l, &e)
	l.Peers = r.U16()
	l.Prekeys = r.U16()
	l.Skip = r.U16()
	l.Skips = r.U16()
	l.Outbox = r.U16()
	l.Counter = r.U32()
	r.End()
	return l, CheckLimits(l)
}
