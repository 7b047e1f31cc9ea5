package keyring

import (
	"lethe/api"
	"lethe/curve"
	"lethe/store"
)

// Publish: a new prekey of each draw; their offers.
func Publish(t *store.Tx, draws ...[]byte) ([]api.Offer, api.Errno) {
	lim, e := Limits(t)
	if e != api.OK {
		return nil, e
	}
	identity, e := Identity(t)
	if e != api.OK {
		return nil, e
	}
	if !areDraws(draws) {
		return nil, api.ErrDraw
	}
	last, e := published(t)
	if e != api.OK {
		return nil, e
	}
	if len(draws) > lim.Prekeys-prekeys(t) { // a difference of small numbers, where a sum might wrap round
		return nil, api.ErrPrekeys
	}
	if uint64(last)+uint64(len(draws)) > uint64(lim.Counter) {
		return nil, api.ErrCounter
	}
	return putPrekeys(t, identity.Pub, last, draws), api.OK
}

// areDraws: by their lengths alone: pairs are worked out only of what is not refused.
func areDraws(draws [][]byte) bool {
	for _, draw := range draws {
		if len(draw) != keySize {
			return false
		}
	}
	return true
}

// published: how many prekeys ever were, which is the last one's number.
func published(t *store.Tx) (uint32, api.Errno) {
	value, e := valueOf(t, publishedTable, soleKey(), api.ErrFormat)
	if e != api.OK {
		return 0, e
	}
	if len(value) != numberSize {
		return 0, api.ErrFormat
	}
	return readNumber(value), api.OK
}

// prekeys: how many are there.
func prekeys(t *store.Tx) int {
	n := 0
	for range t.Scan(prekeyTable, nil) {
		n++
	}
	return n
}

// putPrekeys: all that might be refused has been looked at, so no pair and no Put is.
func putPrekeys(t *store.Tx, identity api.Key, last uint32, draws [][]byte) []api.Offer {
	var offers []api.Offer
	for _, draw := range draws {
		last++
		pair, _ := curve.NewPair(draw)
		t.Put(prekeyTable, numberBytes(last), pairBytes(pair))
		t.Put(publishedTable, soleKey(), numberBytes(last))
		offers = append(offers, api.Offer{Identity: identity, Prekey: last, Key: pair.Pub})
	}
	return offers
}
