package page

import (
	"lethe/api"
	"lethe/wire"
)

const headSize = 8 // of the first page's content: its three numbers

// Head: the first page of a store: how many pages, how many of them are used, how many records.
func Head(pages, used, records int) ([]byte, api.Errno) {
	if !makeSense(pages, used, records) {
		return nil, api.ErrPlace
	}
	w, _ := wire.NewWriter(headSize)
	w.U16(pages)
	w.U16(used)
	w.U32(uint32(records))
	content, _ := w.Out()
	return laid(firstKind, 0, 0, content)
}

// makeSense: could a store be so? Each bound leans on the one ahead of it, so that the product is a small one.
func makeSense(pages, used, records int) bool {
	return 1 <= pages && pages <= api.MaxPages &&
		0 <= used && used < pages &&
		0 <= records && records <= mostCount*used
}

// OpenHead: back.
func OpenHead(b []byte) (pages, used, records int, e api.Errno) {
	f, e := read(b, firstKind)
	if e == api.OK {
		e = f.firstFault()
	}
	if e != api.OK {
		return 0, 0, 0, e
	}
	pages, used, records = f.numbers()
	if !makeSense(pages, used, records) {
		return 0, 0, 0, api.ErrPlace
	}
	return pages, used, records, api.OK
}

// firstFault: the first thing ahead of and behind its numbers that no first page has.
func (f fields) firstFault() api.Errno {
	switch {
	case f.number != 0 || f.count != 0 || !wire.Blank(f.slack) || !wire.Blank(f.behind[headSize:]):
		return api.ErrSlack
	case f.length != headSize:
		return api.ErrSize
	}
	return api.OK
}

func (f fields) numbers() (pages, used, records int) {
	r := wire.NewReader(f.behind[:headSize])
	pages = r.U16()
	used = r.U16()
	records = int(r.U32())
	return pages, used, records
}
