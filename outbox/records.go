package outbox

import (
	"lethe/api"
	"lethe/store"
)

const (
	packetTable = 6
	serialSize  = 4
)

// peerBytes: of a right name. The length ahead keeps the packets of a name apart from those of a longer one that begins with it.
func peerBytes(peer string) []byte {
	return append([]byte{byte(len(peer))}, peer...)
}

// keyOf: that of a packet's record.
func keyOf(peer string, serial uint32) []byte {
	return append(peerBytes(peer), byte(serial>>24), byte(serial>>16), byte(serial>>8), byte(serial))
}

// readSerial: of four bytes.
func readSerial(b []byte) uint32 {
	return uint32(b[0])<<24 | uint32(b[1])<<16 | uint32(b[2])<<8 | uint32(b[3])
}

// usable: what every call looks at ahead of all else. A transaction tells that it is not open by refusing a Get alone: a Scan of it is empty, as that of a peer without packets.
func usable(t *store.Tx, peer string) api.Errno {
	if t == nil {
		return api.ErrHandle
	}
	if _, e := t.Get(packetTable, nil); e == api.ErrDone {
		return api.ErrDone
	}
	if len(peer) < 1 || len(peer) > api.MaxName {
		return api.ErrName
	}
	return api.OK
}
