package store

import (
	"lethe/api"
	"lethe/pack"
	"lethe/page"
	"lethe/sectors"
	"lethe/wal"
)

// Open: the store of a disk.
func Open(d *sectors.Device) (*Store, error) {
	log, _, err := wal.Open(d)
	if err != nil {
		return nil, fault("Open", 0, err)
	}
	pages, err := homes(log)
	if err != nil {
		return nil, fault("Open", 0, err)
	}
	found, at, e := understood(pages)
	if e != api.OK {
		return nil, fault("Open", at, e)
	}
	strays, e := rest(d)
	if e != api.OK {
		return nil, fault("Open", 0, e)
	}
	if len(strays) > 0 {
		return nil, fault("Open", log.Pages(), api.ErrSlack)
	}
	return &Store{log: log, list: found.list, used: len(found.counts)}, nil
}

// contents: the records of a disk's pages, and how many of them stand in each, from page 1 on.
type contents struct {
	list   []api.Record
	counts []int
}

// understood: what all pages of a disk hold; of pages that are no layout the first fault, and where it is.
func understood(pages layout) (found contents, at int, e api.Errno) {
	total, used, records, e := page.OpenHead(pages[0])
	if e != api.OK {
		return contents{}, 0, e
	}
	if total != len(pages) {
		return contents{}, 0, api.ErrFormat
	}
	for n := 1; n <= used; n++ {
		if e := found.take(n, pages[n]); e != api.OK {
			return contents{}, n, e
		}
	}
	if len(found.list) != records {
		return contents{}, 0, api.ErrFormat
	}
	if at, e := found.splitFault(); e != api.OK {
		return contents{}, at, e
	}
	for n := used + 1; n < len(pages); n++ {
		if !allZeros(pages[n]) {
			return contents{}, n, api.ErrSlack
		}
	}
	return found, 0, api.OK
}

// take: the records of one page more.
func (c *contents) take(number int, b []byte) api.Errno {
	count, content, e := page.Open(b, number)
	if e != api.OK {
		return e
	}
	more, e := pack.Decode(count, content)
	if e != api.OK {
		return e
	}
	if len(c.list) > 0 && pack.Compare(c.list[len(c.list)-1], more[0]) >= 0 {
		return api.ErrOrder
	}
	c.list, c.counts = append(c.list, more...), append(c.counts, count)
	return api.OK
}

// splitFault: ErrSplit at the first page in which another number of records would have to stand.
func (c *contents) splitFault() (at int, e api.Errno) {
	counts, e := pack.Pack(c.list)
	if e != api.OK {
		return 0, e
	}
	for i := range max(len(counts), len(c.counts)) {
		if countAt(counts, i) != countAt(c.counts, i) {
			return i + 1, api.ErrSplit
		}
	}
	return 0, api.OK
}

func countAt(counts []int, i int) int {
	if i < len(counts) {
		return counts[i]
	}
	return 0
}
