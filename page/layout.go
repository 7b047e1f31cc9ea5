package page

import (
	"lethe/api"
	"lethe/wire"
)

// A page's head: the mark, the kind, three numbers of two bytes, slack, the checksum.
const (
	mark        = 0xd6
	firstKind   = 1
	recordsKind = 2
	slackSize   = 4
	sumSize     = 4
	sumAt       = api.PageHead - sumSize
	room        = api.PageSize - api.PageHead
)

// sumAround: the checksum of a page, of what stands ahead of the checksum and behind it; its own bytes count as zeros.
func sumAround(ahead, behind []byte) uint32 { return Sum(ahead, make([]byte, sumSize), behind) }

// laid: a page of that kind. What the kinds refuse is looked at ahead of it, so the writer has no fault.
func laid(kind, number, count int, content []byte) ([]byte, api.Errno) {
	behind := wire.Join(content, make([]byte, room-len(content)))
	w, _ := wire.NewWriter(api.PageSize)
	w.U8(mark)
	w.U8(kind)
	w.U16(number)
	w.U16(count)
	w.U16(len(content))
	w.Fixed(make([]byte, slackSize))
	ahead, _ := w.Out()
	w.U32(sumAround(ahead, behind))
	w.Fixed(behind)
	return w.Out()
}

// fields: what stands in a page beside its mark, its kind and its checksum. Behind is all that follows the head.
type fields struct {
	number, count, length int
	slack, behind         []byte
}

// read: the fields of a page, once all is found right that both kinds ask for alike.
func read(b []byte, kind int) (fields, api.Errno) {
	if len(b) != api.PageSize {
		return fields{}, api.ErrSize
	}
	r := wire.NewReader(b)
	if r.U8() != mark {
		return fields{}, api.ErrMark
	}
	if r.U8() != kind {
		return fields{}, api.ErrKind
	}
	var f fields
	f.number = r.U16()
	f.count = r.U16()
	f.length = r.U16()
	f.slack = r.Fixed(slackSize)
	sum := r.U32()
	f.behind = r.Fixed(room)
	if sum != sumAround(b[:sumAt], f.behind) {
		return fields{}, api.ErrSum
	}
	return f, api.OK
}
