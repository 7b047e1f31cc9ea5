package audit

import (
	"lethe/api"
	"lethe/state"
)

const (
	keySize    = len(api.Key{})
	sidSize    = len(api.Sid{})
	bindSize   = len(api.State{}.Bind)
	numberSize = 4

	// A client's tables (chapters 19 and 21). All others hold nothing but what is public.
	limitsTable    = 1
	identityTable  = 2
	prekeysTable   = 3
	sessionsTable  = 4
	skippedTable   = 5
	publishedTable = 7
)

// stretch: so many bytes, and what they are.
type stretch struct {
	size, what int
}

// valueOf: what stands in a record's value. One that is not what its table's values are has nothing in it that is known to be secret.
func valueOf(r api.Record) []stretch {
	size := len(r.Value)
	switch r.Table {
	case limitsTable, publishedTable:
		return []stretch{{size, api.Frame}}
	case identityTable, prekeysTable:
		if size == 2*keySize {
			return []stretch{{keySize, api.Secret}, {keySize, api.Public}}
		}
	case sessionsTable:
		if s, e := state.Decode(r.Value); e == api.OK {
			return stateOf(s)
		}
	case skippedTable:
		if size == keySize {
			return []stretch{{size, api.Secret}}
		}
	}
	return []stretch{{size, api.Public}}
}

// stateOf: what stands in a state's bytes (chapter 18).
func stateOf(s api.State) []stretch {
	list := []stretch{
		{1, api.Frame},                   // the version
		{sidSize + bindSize, api.Public}, // Sid, Bind
		{2 * keySize, api.Secret},        // Root, Pair.Priv
		{2 * keySize, api.Public},        // Pair.Pub, Peer
		{3 * numberSize, api.Frame},      // Own, Turns, Serial
	}
	if s.Own > 0 {
		list = append(list, stretch{keySize, api.Secret}, stretch{2 * numberSize, api.Frame}) // SendKey; Sent, Prev
	}
	if s.Turns > 0 {
		list = append(list, stretch{keySize, api.Secret}, stretch{numberSize, api.Frame}) // RecvKey; Got
	}
	list = append(list, stretch{1, api.Frame}) // the byte ahead of the hello
	if s.Hello != (api.Hello{}) {
		list = append(list, stretch{keySize, api.Public}, stretch{numberSize, api.Frame}) // Once; Prekey
	}
	return list
}
