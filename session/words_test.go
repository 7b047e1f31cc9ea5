package session_test

import (
	"bytes"
	"sort"
	"strings"

	"lethe/api"
)

// The words: the document's sentences, said of a plain list of records, out of Go's own library alone. This file: the records, and chapters 19 and 20 as far as sessions need them.

func joined(parts ...[]byte) []byte { return bytes.Join(parts, nil) }

// four: a number's bytes, by division.
func four(n uint32) []byte {
	return []byte{byte(n / (256 * 256 * 256)), byte(n / (256 * 256) % 256), byte(n / 256 % 256), byte(n % 256)}
}

func wordsNumber(b []byte) uint32 {
	return uint32(b[0])*256*256*256 + uint32(b[1])*256*256 + uint32(b[2])*256 + uint32(b[3])
}

// one: the key of a table's only record.
func one() []byte { return []byte{0} }

func rec(table int, key, value []byte) api.Record {
	return api.Record{Table: table, Key: key, Value: value}
}

// wordsPut: the list with this record, in its order.
func wordsPut(list []api.Record, r api.Record) []api.Record {
	all := append(wordsDelete(list, r.Table, r.Key), r)
	sort.Slice(all, func(i, j int) bool {
		return all[i].Table < all[j].Table || all[i].Table == all[j].Table && string(all[i].Key) < string(all[j].Key)
	})
	return all
}

func wordsDelete(list []api.Record, table int, key []byte) []api.Record {
	var left []api.Record
	for _, r := range list {
		if r.Table != table || !bytes.Equal(r.Key, key) {
			left = append(left, r)
		}
	}
	return left
}

func wordsGet(list []api.Record, table int, key []byte) ([]byte, bool) {
	for _, r := range list {
		if r.Table == table && bytes.Equal(r.Key, key) {
			return r.Value, true
		}
	}
	return nil, false
}

// wordsUnder: the records of a table whose keys begin so.
func wordsUnder(list []api.Record, table int, prefix []byte) []api.Record {
	var some []api.Record
	for _, r := range list {
		if r.Table == table && strings.HasPrefix(string(r.Key), string(prefix)) {
			some = append(some, r)
		}
	}
	return some
}

// wordsPeer: a peer's bytes.
func wordsPeer(peer string) []byte { return joined([]byte{byte(len(peer))}, []byte(peer)) }

func wordsPairBytes(p api.Pair) []byte { return joined(p.Priv[:], p.Pub[:]) }

// Chapter 19.

func wordsLimits(list []api.Record) (api.Limits, api.Errno) {
	b, there := wordsGet(list, 1, one())
	if !there {
		return api.Limits{}, 123
	}
	l, e := wordsDecodeLimits(b)
	if e != 0 {
		return api.Limits{}, 123
	}
	return l, 0
}

func wordsPairOf(b []byte) (api.Pair, api.Errno) {
	if len(b) != 64 {
		return api.Pair{}, 123
	}
	return api.Pair{Priv: api.Key(b[:32]), Pub: api.Key(b[32:])}, 0
}

func wordsIdentity(list []api.Record) (api.Pair, api.Errno) {
	b, there := wordsGet(list, 2, one())
	if !there {
		return api.Pair{}, 123
	}
	return wordsPairOf(b)
}

func wordsFind(list []api.Record, number uint32) (api.Pair, api.Errno) {
	b, there := wordsGet(list, 3, four(number))
	if !there {
		return api.Pair{}, 190
	}
	return wordsPairOf(b)
}

// Chapter 20.

func wordsMailKey(peer string, serial uint32) []byte { return joined(wordsPeer(peer), four(serial)) }

// wordsMails: a peer's packets.
func wordsMails(list []api.Record, peer string) ([]api.Record, api.Errno) {
	some := wordsUnder(list, 6, wordsPeer(peer))
	for _, r := range some {
		if len(r.Key) != 1+len(peer)+4 {
			return nil, 180
		}
	}
	return some, 0
}

func wordsOutboxPut(list []api.Record, peer string, serial uint32, packet []byte, most int) ([]api.Record, api.Errno) {
	some, e := wordsMails(list, peer)
	if e != 0 {
		return list, e
	}
	if _, there := wordsGet(list, 6, wordsMailKey(peer, serial)); there {
		return list, 151
	}
	if len(some) >= most {
		return list, 200
	}
	return wordsPut(list, rec(6, wordsMailKey(peer, serial), packet)), 0
}

func wordsDrop(list []api.Record, peer string) ([]api.Record, api.Errno) {
	some, e := wordsMails(list, peer)
	for _, r := range some {
		list = wordsDelete(list, 6, r.Key)
	}
	return list, e
}
