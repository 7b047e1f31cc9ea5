package wal

import (
	"lethe/api"
	"lethe/sectors"
)

// markerPlace: the sector of the marker; the slots follow it.
const markerPlace = 0

// surrender: what a call panics with where it goes no further.
type surrender struct {
	code api.Errno
}

func giveUp(e api.Errno) {
	panic(surrender{code: e})
}

// must: whatever the device answers ends the call, so that the order of the writes can be told without a check behind each.
func must(e api.Errno) {
	if e != api.OK {
		giveUp(e)
	}
}

// caught: the number that a call gave up with, out of what recover answers; OK: it did not.
func caught(thrown any) api.Errno {
	switch v := thrown.(type) {
	case nil:
		return api.OK
	case surrender:
		return v.code
	}
	panic(thrown) // no answer of the disk, and not to be taken for one
}

// disk: a device, and how many pages it has room for.
type disk struct {
	device *sectors.Device
	pages  int
}

// span: the sectors from..end-1.
type span struct {
	from, end int
}

func over(d *sectors.Device) disk {
	if d == nil {
		giveUp(api.ErrHandle)
	}
	if d.Down() {
		giveUp(api.ErrDown)
	}
	pages := Room(d.Sectors())
	if pages == 0 {
		giveUp(api.ErrRoom)
	}
	return disk{device: d, pages: pages}
}

// slot: its first sector.
func (k disk) slot(n int) int { return markerPlace + 1 + 2*n }

// home: its first sector; the homes follow the slots.
func (k disk) home(n int) int { return k.slot(k.pages + n) }

func (k disk) log() span { return span{from: markerPlace, end: k.home(0)} }

// beyond: the sectors that are of no use.
func (k disk) beyond() span { return span{from: k.home(k.pages), end: k.device.Sectors()} }

func (k disk) read(i int) []byte {
	b, e := k.device.Read(i)
	must(e)
	return b
}

func (k disk) write(i int, b []byte) { must(k.device.Write(i, b)) }

func (k disk) flush() { must(k.device.Flush()) }

func (k disk) readPage(from int) []byte {
	return append(k.read(from), k.read(from+1)...)
}

func (k disk) writePage(from int, b []byte) {
	k.write(from, b[:api.SectorSize])
	k.write(from+1, b[api.SectorSize:])
}

// settle: what somebody else has written is durable ahead of everything else.
func (k disk) settle() {
	if len(k.device.Cache()) > 0 {
		k.flush()
	}
}

// change: these pages, of rising numbers, go home. A flush stands wherever what follows leans on what is ahead of it.
func (k disk) change(pages []api.PageWrite) {
	m := markerOf(pages)
	for _, w := range pages {
		k.writePage(k.slot(w.Number), w.Bytes)
	}
	k.flush()
	k.write(markerPlace, m)
	k.flush()
	for _, w := range pages {
		k.writePage(k.home(w.Number), w.Bytes)
	}
	k.flush()
	k.write(markerPlace, m.off())
	k.flush()
	k.blank(markerPlace)
	for _, w := range pages {
		k.blank(k.slot(w.Number))
		k.blank(k.slot(w.Number) + 1)
	}
	k.flush()
}

// repeat: what a marker that stands says is done once more: its pages go home, and it is taken away.
func (k disk) repeat(m marker) {
	for _, n := range m.numbers() {
		k.writePage(k.home(n), k.readPage(k.slot(n)))
	}
	k.flush()
	k.write(markerPlace, m.off())
	k.flush()
}

func (k disk) blank(i int) { k.write(i, make([]byte, api.SectorSize)) }

// wipe: the sectors of these spans become zeros; those that are so already are left alone.
func (k disk) wipe(spans ...span) {
	wiped := false
	for _, s := range spans {
		for i := s.from; i < s.end; i++ {
			if !allZeros(k.read(i)) {
				k.blank(i)
				wiped = true
			}
		}
	}
	if wiped {
		k.flush()
	}
}

func allZeros(b []byte) bool {
	for _, c := range b {
		if c != 0 {
			return false
		}
	}
	return true
}
