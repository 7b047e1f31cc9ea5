package store

import (
	"bytes"

	"lethe/api"
	"lethe/pack"
	"lethe/page"
	"lethe/wal"
)

// layout: a disk's pages, from page 0 on; those behind the last one are all zeros.
type layout [][]byte

// layoutOf: the one of a sorted list on a disk of so many pages; ErrFull, if it has no room.
func layoutOf(list []api.Record, pages int) (layout, api.Errno) {
	counts, e := pack.Pack(list)
	if e != api.OK {
		return nil, e
	}
	if len(counts) > pages-1 {
		return nil, api.ErrFull
	}
	head, e := page.Head(pages, len(counts), len(list))
	if e != api.OK {
		return nil, e
	}
	all := layout{head}
	for _, count := range counts {
		b, e := pageOf(len(all), list[:count])
		if e != api.OK {
			return nil, e
		}
		all, list = append(all, b), list[count:]
	}
	return all, api.OK
}

// pageOf: the page of this number with these records.
func pageOf(number int, list []api.Record) ([]byte, api.Errno) {
	content, e := pack.Encode(list)
	if e != api.OK {
		return nil, e
	}
	return page.Make(number, len(list), content)
}

// used: how many pages behind page 0 hold something, of a layout that layoutOf has made.
func (l layout) used() int { return len(l) - 1 }

func (l layout) page(n int) []byte {
	if n < len(l) {
		return l[n]
	}
	return make([]byte, api.PageSize)
}

// changes: the pages that are not as wanted, as they are wanted.
func changes(was, wanted layout, pages int) []api.PageWrite {
	var list []api.PageWrite
	for n := range pages {
		b := wanted.page(n)
		if !bytes.Equal(was.page(n), b) {
			list = append(list, api.PageWrite{Number: n, Bytes: b})
		}
	}
	return list
}

// homes: all pages as they stand on the disk.
func homes(log *wal.Log) (layout, error) {
	var all layout
	for n := range log.Pages() {
		b, err := log.Read(n)
		if err != nil {
			return nil, err
		}
		all = append(all, b)
	}
	return all, nil
}

func allZeros(b []byte) bool {
	for _, c := range b {
		if c != 0 {
			return false
		}
	}
	return true
}
