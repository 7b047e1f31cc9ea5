package pack

import (
	"bytes"
	"cmp"

	"lethe/api"
	"lethe/wire"
)

const frameSize = 4 // of a record's bytes: its table, its key's length, its value's length

// Check: is it a record?
func Check(r api.Record) api.Errno {
	if r.Table < 0 || r.Table > api.MaxTable ||
		len(r.Key) < 1 || len(r.Key) > api.MaxKey ||
		len(r.Value) > api.MaxValue {
		return api.ErrRecord
	}
	return api.OK
}

// Compare: -1, 0, 1: by table, then by key. (Not by value: records of one place are the same to it.)
func Compare(a, b api.Record) int {
	return cmp.Or(cmp.Compare(a.Table, b.Table), bytes.Compare(a.Key, b.Key))
}

// Size: how many bytes a record takes in a page.
func Size(r api.Record) int { return frameSize + len(r.Key) + len(r.Value) }

// write puts a record's bytes behind what was written.
func write(w *wire.Writer, r api.Record) {
	w.U8(r.Table)
	w.U8(len(r.Key))
	w.Fixed(r.Key)
	w.Run(r.Value)
}

// read: the record whose bytes stand where the reader does. Whatever is wrong with them has one number, so the bounds are looked at when all is read.
func read(r *wire.Reader) (api.Record, api.Errno) {
	var found api.Record
	found.Table = r.U8()
	found.Key = r.Fixed(r.U8())
	found.Value = r.Run(api.MaxValue)
	if _, e := r.Fault(); e != api.OK {
		return api.Record{}, api.ErrRecord
	}
	return found, Check(found)
}

// own: the same record, its key and value in memory of their own.
func own(r api.Record) api.Record {
	return api.Record{Table: r.Table, Key: bytes.Clone(r.Key), Value: bytes.Clone(r.Value)}
}
