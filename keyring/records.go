package keyring

import (
	"lethe/api"
	"lethe/store"
)

// The tables of a client's store that are this layer's.
const (
	limitsTable    = 1
	identityTable  = 2
	prekeyTable    = 3
	publishedTable = 7
)

const (
	numberSize = 4
	keySize    = len(api.Key{})
	pairSize   = 2 * keySize
)

// soleKey: that of a table's only record.
func soleKey() []byte { return []byte{0} }

func numberBytes(n uint32) []byte {
	return []byte{byte(n >> 24), byte(n >> 16), byte(n >> 8), byte(n)}
}

// readNumber: of four bytes.
func readNumber(b []byte) uint32 {
	return uint32(b[0])<<24 | uint32(b[1])<<16 | uint32(b[2])<<8 | uint32(b[3])
}

func pairBytes(p api.Pair) []byte {
	b := make([]byte, 0, pairSize)
	b = append(b, p.Priv[:]...)
	return append(b, p.Pub[:]...)
}

// readPair: as it stands there: whether Pub belongs to Priv is not asked.
func readPair(b []byte) (api.Pair, api.Errno) {
	if len(b) != pairSize {
		return api.Pair{}, api.ErrFormat
	}
	return api.Pair{Priv: api.Key(b[:keySize]), Pub: api.Key(b[keySize:])}, api.OK
}

// valueOf: a record's value; missing is the answer where there is no such record.
func valueOf(t *store.Tx, table int, key []byte, missing api.Errno) ([]byte, api.Errno) {
	if t == nil {
		return nil, api.ErrHandle
	}
	value, e := t.Get(table, key)
	if e == api.ErrMissing {
		return nil, missing
	}
	return value, e
}

// usable: a transaction tells that it is not open by refusing a Get alone: a Scan of it is empty, as that of a table without records.
func usable(t *store.Tx) api.Errno {
	_, e := valueOf(t, prekeyTable, nil, api.OK)
	return e
}
