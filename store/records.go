package store

import (
	"bytes"
	"iter"
	"sort"

	"lethe/api"
	"lethe/pack"
)

// own: the same record, its key and value in memory of their own.
func own(r api.Record) api.Record {
	return api.Record{Table: r.Table, Key: bytes.Clone(r.Key), Value: bytes.Clone(r.Value)}
}

// copied: each record in memory of its own.
func copied(list []api.Record) []api.Record {
	all := make([]api.Record, 0, len(list))
	for _, r := range list {
		all = append(all, own(r))
	}
	return all
}

// place: how many records stand ahead of this table and key, and whether the next one has them. (pack.Find looks at the whole list first; these lists are known to be sorted.)
func place(list []api.Record, table int, key []byte) (int, bool) {
	wanted := api.Record{Table: table, Key: key}
	at := sort.Search(len(list), func(i int) bool { return pack.Compare(list[i], wanted) >= 0 })
	return at, at < len(list) && pack.Compare(list[at], wanted) == 0
}

func valueOf(list []api.Record, table int, key []byte) ([]byte, api.Errno) {
	at, there := place(list, table, key)
	if !there {
		return nil, api.ErrMissing
	}
	return bytes.Clone(list[at].Value), api.OK
}

// beginning: the stretch of the list that has this table and keys that begin so. (A key stands ahead of all longer ones that begin with it, and nothing else comes between.)
func beginning(list []api.Record, table int, prefix []byte) []api.Record {
	from, _ := place(list, table, prefix)
	end := from
	for end < len(list) && list[end].Table == table && bytes.HasPrefix(list[end].Key, prefix) {
		end++
	}
	return list[from:end]
}

// sequence: a copy of each record, as a loop comes to it. The list must not change any more.
func sequence(list []api.Record) iter.Seq[api.Record] {
	return func(yield func(api.Record) bool) {
		for _, r := range list {
			if !yield(own(r)) {
				return
			}
		}
	}
}
