package store

import (
	"iter"
	"slices"

	"lethe/api"
	"lethe/pack"
)

// Tx: a transaction: it sees its own changes.
type Tx struct {
	store *Store
	list  []api.Record // what it sees; none of one that is not open
}

// isOpen: the store knows the one that is, so that both always say the same.
func (t *Tx) isOpen() bool { return t.store.open == t }

// close: it is not open any more. What it saw.
func (t *Tx) close() []api.Record {
	list := t.list
	t.list, t.store.open = nil, nil
	return list
}

// Get: a record's value.
func (t *Tx) Get(table int, key []byte) ([]byte, api.Errno) {
	if !t.isOpen() {
		return nil, api.ErrDone
	}
	return valueOf(t.list, table, key)
}

// Scan: as the store's, with the changes.
func (t *Tx) Scan(table int, prefix []byte) iter.Seq[api.Record] {
	return sequence(slices.Clone(beginning(t.list, table, prefix))) // a later Put or Delete moves the list's elements
}

// Put: a record.
func (t *Tx) Put(table int, key, value []byte) api.Errno {
	if !t.isOpen() {
		return api.ErrDone
	}
	r := api.Record{Table: table, Key: key, Value: value}
	if e := pack.Check(r); e != api.OK {
		return e
	}
	at, there := place(t.list, table, key)
	if there {
		t.list[at] = own(r)
	} else {
		t.list = slices.Insert(t.list, at, own(r))
	}
	return api.OK
}

// Delete: a record.
func (t *Tx) Delete(table int, key []byte) api.Errno {
	if !t.isOpen() {
		return api.ErrDone
	}
	at, there := place(t.list, table, key)
	if !there {
		return api.ErrMissing
	}
	t.list = slices.Delete(t.list, at, at+1)
	return api.OK
}

// Commit: all changes, or none.
func (t *Tx) Commit() error {
	if !t.isOpen() {
		return fault("Commit", 0, api.ErrDone)
	}
	return t.store.commit(t.close())
}

// Abort: none.
func (t *Tx) Abort() api.Errno {
	if !t.isOpen() {
		return api.ErrDone
	}
	t.close()
	return api.OK
}
