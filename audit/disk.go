package audit

import (
	"slices"

	"lethe/api"
	"lethe/pack"
	"lethe/page"
	"lethe/wal"
)

// disk: an image that can be read.
type disk struct {
	image []byte
	pages int            // for which it has room
	used  [][]api.Record // the records of each used page, from page 1 on
}

// read: an image's records, page by page, or why it can't be read. The log bars nothing, and neither do the pages behind the used ones.
func read(image []byte) (disk, api.Errno) {
	count := len(image) / api.SectorSize
	if count < 1 || count > api.MaxSectors || len(image)%api.SectorSize != 0 {
		return disk{}, api.ErrImage
	}
	d := disk{image: image, pages: wal.Room(count)}
	if d.pages == 0 {
		return disk{}, api.ErrRoom
	}
	pages, used, records, e := page.OpenHead(d.page(0))
	if e != api.OK {
		return disk{}, e
	}
	if pages != d.pages {
		return disk{}, api.ErrFormat
	}
	for n := 1; n <= used; n++ {
		if e := d.take(n); e != api.OK {
			return disk{}, e
		}
	}
	if len(d.records()) != records {
		return disk{}, api.ErrFormat
	}
	return d, api.OK
}

// home: where page n begins. The marker and a slot for each page stand ahead of them all.
func (d disk) home(n int) int { return api.SectorSize + (d.pages+n)*api.PageSize }

func (d disk) page(n int) []byte { return d.image[d.home(n):d.home(n+1)] }

// take: the records of page n, which is the next one.
func (d *disk) take(n int) api.Errno {
	count, content, e := page.Open(d.page(n), n)
	if e != api.OK {
		return e
	}
	list, e := pack.Decode(count, content)
	if e != api.OK {
		return e
	}
	if n > 1 {
		ahead := d.used[n-2]
		if pack.Compare(ahead[len(ahead)-1], list[0]) >= 0 { // no page that is taken has no records
			return api.ErrOrder
		}
	}
	d.used = append(d.used, list)
	return api.OK
}

func (d disk) records() []api.Record { return slices.Concat(d.used...) }

// layout: the image that a store with these records alone leaves on such a disk. Nothing in it can fail: the records stand in pages already, and pack never takes more pages than those.
func (d disk) layout() []byte {
	list := d.records()
	counts, _ := pack.Pack(list)
	image := make([]byte, len(d.image))
	head, _ := page.Head(d.pages, len(counts), len(list))
	copy(image[d.home(0):], head)
	for i, count := range counts {
		content, _ := pack.Encode(list[:count])
		b, _ := page.Make(i+1, count, content)
		copy(image[d.home(i+1):], b)
		list = list[count:]
	}
	return image
}
