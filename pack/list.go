package pack

import (
	"sort"

	"lethe/api"
)

// listFault: OK of a sorted list. One that is no record is told ahead of any that stands out of order, wherever they are.
func listFault(list []api.Record) api.Errno {
	for _, r := range list {
		if e := Check(r); e != api.OK {
			return e
		}
	}
	for i := 1; i < len(list); i++ {
		if Compare(list[i-1], list[i]) >= 0 {
			return api.ErrOrder
		}
	}
	return api.OK
}

// place: how many of a sorted list stand ahead of this table and key, and whether the next one is of that place.
func place(list []api.Record, table int, key []byte) (int, bool) {
	wanted := api.Record{Table: table, Key: key}
	at := sort.Search(len(list), func(i int) bool { return Compare(list[i], wanted) >= 0 })
	return at, at < len(list) && Compare(list[at], wanted) == 0
}

// copied: the records of all parts, one part behind the other, each in memory of its own.
func copied(parts ...[]api.Record) []api.Record {
	var all []api.Record
	for _, part := range parts {
		for _, r := range part {
			all = append(all, own(r))
		}
	}
	return all
}

// Put: a sorted list with that record in it (in the place of the one with its table and key, if there is one).
func Put(list []api.Record, r api.Record) ([]api.Record, api.Errno) {
	if e := Check(r); e != api.OK {
		return nil, e
	}
	if e := listFault(list); e != api.OK {
		return nil, e
	}
	at, there := place(list, r.Table, r.Key)
	behind := list[at:]
	if there {
		behind = behind[1:]
	}
	return copied(list[:at], []api.Record{r}, behind), api.OK
}

// Delete: without the one of that table and key; ErrMissing.
func Delete(list []api.Record, table int, key []byte) ([]api.Record, api.Errno) {
	if e := listFault(list); e != api.OK {
		return nil, e
	}
	at, there := place(list, table, key)
	if !there {
		return nil, api.ErrMissing
	}
	return copied(list[:at], list[at+1:]), api.OK
}

// Find: its index in a sorted list.
func Find(list []api.Record, table int, key []byte) (int, bool) {
	if listFault(list) != api.OK {
		return 0, false
	}
	return place(list, table, key)
}
