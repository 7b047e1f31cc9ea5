package keyring_test

import (
	"bytes"
	"sort"

	"lethe/api"
	"lethe/curve"
)

// The chapter's sentences, said of a plain list of records, with nothing of what the program uses but curve's pairs.

// pairs: those that were worked out already: the tests ask for the same ones again and again.
var pairs = map[string]api.Pair{}

// wordsPair: of 32 bytes.
func wordsPair(draw []byte) api.Pair {
	if p, there := pairs[string(draw)]; there {
		return p
	}
	p, e := curve.NewPair(draw)
	if e != api.OK {
		panic("no draw")
	}
	pairs[string(draw)] = p
	return p
}

// four: a number's bytes, by division.
func four(n int) []byte {
	return []byte{byte(n / 16777216 % 256), byte(n / 65536 % 256), byte(n / 256 % 256), byte(n % 256)}
}

func wordsNumber(b []byte) int {
	n := 0
	for _, digit := range b {
		n = 256*n + int(digit)
	}
	return n
}

func wordsPairBytes(p api.Pair) []byte { return joined(p.Priv[:], p.Pub[:]) }

func wordsPairOf(b []byte) (p api.Pair) {
	for i := range 32 {
		p.Priv[i], p.Pub[i] = b[i], b[32+i]
	}
	return p
}

func wordsAreLimits(l api.Limits) bool {
	return 1 <= l.Peers && l.Peers <= 16 && 1 <= l.Prekeys && l.Prekeys <= 64 && 0 <= l.Skip && l.Skip <= 64 &&
		0 <= l.Skips && l.Skips <= 256 && 1 <= l.Outbox && l.Outbox <= 64 && 1 <= l.Counter
}

func wordsLimitsBytes(l api.Limits) []byte {
	var b []byte
	for _, n := range []int{l.Peers, l.Prekeys, l.Skip, l.Skips, l.Outbox} {
		b = append(b, byte(n/256), byte(n%256))
	}
	return append(b, four(int(l.Counter))...)
}

func wordsLimitsOf(b []byte) api.Limits {
	n := func(lo, hi int) int { return wordsNumber(b[lo:hi]) }
	return api.Limits{Peers: n(0, 2), Prekeys: n(2, 4), Skip: n(4, 6), Skips: n(6, 8), Outbox: n(8, 10), Counter: uint32(n(10, 14))}
}

// wordsPut: the list with this record, in its order.
func wordsPut(list []api.Record, r api.Record) []api.Record {
	all := append(wordsDelete(list, r.Table, r.Key), r)
	sort.Slice(all, func(i, j int) bool {
		return all[i].Table < all[j].Table || all[i].Table == all[j].Table && string(all[i].Key) < string(all[j].Key)
	})
	return all
}

func wordsDelete(list []api.Record, table int, key []byte) []api.Record {
	var left []api.Record
	for _, r := range list {
		if r.Table != table || !bytes.Equal(r.Key, key) {
			left = append(left, r)
		}
	}
	return left
}

func wordsGet(list []api.Record, table int, key []byte) ([]byte, bool) {
	for _, r := range list {
		if r.Table == table && bytes.Equal(r.Key, key) {
			return r.Value, true
		}
	}
	return nil, false
}

func wordsTable(list []api.Record, table int) []api.Record {
	var some []api.Record
	for _, r := range list {
		if r.Table == table {
			some = append(some, r)
		}
	}
	return some
}

// P19.2.
func wordsRecords(lim api.Limits, draw []byte) ([]api.Record, api.Errno) {
	if !wordsAreLimits(lim) {
		return nil, 2
	}
	if len(draw) != 32 {
		return nil, 71
	}
	return recs(rec(1, one(), wordsLimitsBytes(lim)), rec(2, one(), wordsPairBytes(wordsPair(draw))), rec(7, one(), four(0))), 0
}

// P19.3.
func wordsLimits(list []api.Record) (api.Limits, api.Errno) {
	b, there := wordsGet(list, 1, one())
	if !there || len(b) != 14 || !wordsAreLimits(wordsLimitsOf(b)) {
		return api.Limits{}, 123
	}
	return wordsLimitsOf(b), 0
}

// P19.4.
func wordsIdentity(list []api.Record) (api.Pair, api.Errno) {
	b, there := wordsGet(list, 2, one())
	if !there || len(b) != 64 {
		return api.Pair{}, 123
	}
	return wordsPairOf(b), 0
}

// wordsPublishable: P19.5's errors, in their order.
func wordsPublishable(list []api.Record, draws [][]byte) api.Errno {
	lim, e := wordsLimits(list)
	if e != 0 {
		return e
	}
	if _, e = wordsIdentity(list); e != 0 {
		return e
	}
	for _, draw := range draws {
		if len(draw) != 32 {
			return 71
		}
	}
	b, there := wordsGet(list, 7, one())
	if !there || len(b) != 4 {
		return 123
	}
	if len(wordsTable(list, 3))+len(draws) > lim.Prekeys {
		return 191
	}
	if wordsNumber(b)+len(draws) > int(lim.Counter) {
		return 130
	}
	return 0
}

// P19.5: the records behind it, and the offers.
func wordsPublish(list []api.Record, draws [][]byte) ([]api.Record, []api.Offer, api.Errno) {
	if e := wordsPublishable(list, draws); e != 0 {
		return list, nil, e
	}
	own, _ := wordsIdentity(list)
	b, _ := wordsGet(list, 7, one())
	was := wordsNumber(b)
	var offers []api.Offer
	for i, draw := range draws {
		p := wordsPair(draw)
		list = wordsPut(list, rec(3, four(was+1+i), wordsPairBytes(p)))
		list = wordsPut(list, rec(7, one(), four(was+1+i)))
		offers = append(offers, api.Offer{Identity: own.Pub, Prekey: uint32(was + 1 + i), Key: p.Pub})
	}
	return list, offers, 0
}

// P19.6.
func wordsFind(list []api.Record, number uint32) (api.Pair, api.Errno) {
	b, there := wordsGet(list, 3, four(int(number)))
	if !there {
		return api.Pair{}, 190
	}
	if len(b) != 64 {
		return api.Pair{}, 123
	}
	return wordsPairOf(b), 0
}

// P19.6: the records behind it, and the pair.
func wordsUse(list []api.Record, number uint32) ([]api.Record, api.Pair, api.Errno) {
	p, e := wordsFind(list, number)
	if e == 0 {
		list = wordsDelete(list, 3, four(int(number)))
	}
	return list, p, e
}

// P19.7.
func wordsNumbers(list []api.Record) ([]uint32, api.Errno) {
	var numbers []uint32
	for _, r := range wordsTable(list, 3) {
		if len(r.Key) != 4 {
			return nil, 123
		}
		numbers = append(numbers, uint32(wordsNumber(r.Key)))
	}
	sort.Slice(numbers, func(i, j int) bool { return numbers[i] < numbers[j] })
	return numbers, 0
}
