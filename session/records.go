package session

import (
	"cmp"
	"slices"

	"lethe/api"
)

// The tables of a client's store that are this layer's.
const (
	sessionTable = 4
	skippedTable = 5
)

const (
	numberSize = 4
	placeSize  = 2 * numberSize // a turn and a number
	keySize    = len(api.Key{})
)

// peerBytes: of a right name. The length ahead keeps the records of a name apart from those of a longer one that begins with it.
func peerBytes(peer string) []byte {
	return append([]byte{byte(len(peer))}, peer...)
}

// namesOf: those of the sessions' records, in their order.
func namesOf(sessions []api.Record) []string {
	var names []string
	for _, r := range sessions {
		name := string(r.Key[1:])
		if int(r.Key[0]) != len(name) || Name(name) != api.OK {
			giveUp(api.ErrState)
		}
		names = append(names, name)
	}
	return names
}

// skippedKey: that of a skipped key's record.
func skippedKey(peer []byte, x api.Skipped) []byte {
	return slices.Concat(peer, numberBytes(x.Turn), numberBytes(x.N))
}

// readSkipped: of a record whose key begins with the peer's bytes.
func readSkipped(peer []byte, r api.Record) api.Skipped {
	place := r.Key[len(peer):]
	if len(place) != placeSize || len(r.Value) != keySize {
		giveUp(api.ErrState)
	}
	return api.Skipped{Turn: readNumber(place[:numberSize]), N: readNumber(place[numberSize:]), Key: api.Key(r.Value)}
}

func numberBytes(n uint32) []byte {
	return []byte{byte(n >> 24), byte(n >> 16), byte(n >> 8), byte(n)}
}

// readNumber: of four bytes.
func readNumber(b []byte) uint32 {
	return uint32(b[0])<<24 | uint32(b[1])<<16 | uint32(b[2])<<8 | uint32(b[3])
}

// lacking: those of the list whose places the other one, which is in order, has not.
func lacking(list, other []api.Skipped) []api.Skipped {
	var some []api.Skipped
	for _, x := range list {
		if _, there := slices.BinarySearchFunc(other, x, byPlace); !there {
			some = append(some, x)
		}
	}
	return some
}

// byPlace: -1, 0, 1: by turns, then by numbers.
func byPlace(a, b api.Skipped) int {
	return cmp.Or(cmp.Compare(a.Turn, b.Turn), cmp.Compare(a.N, b.N))
}
