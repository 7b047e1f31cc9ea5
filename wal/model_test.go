package wal_test

import (
	"bytes"
	"sort"

	"lethe/api"
	"lethe/sectors"
)

// The model: which changing calls of the disk the chapter's words name, in their order.

// change: a Write of a sector, or a Flush.
type change struct {
	flush  bool
	sector int
	bytes  []byte
}

func flushing() change { return change{flush: true} }

func writing(sector int, b []byte) change { return change{sector: sector, bytes: joined(b)} }

// halves: Writes of two sectors that follow each other.
func halves(sector int, page []byte) []change {
	return []change{writing(sector, page[:512]), writing(sector+1, page[512:])}
}

// wordsRoom: the greatest number up to 250 for which 4 p + 1 is at most s.
func wordsRoom(s int) int {
	p := 0
	for p < 250 && 4*(p+1)+1 <= s {
		p++
	}
	return p
}

// disc: the sectors as they are read.
type disc [][]byte

func discOf(d *sectors.Device) disc {
	var all disc
	for i := range d.Sectors() {
		b, _ := d.Read(i)
		all = append(all, b)
	}
	return all
}

func (s disc) nonzero(i int) bool { return !bytes.Equal(s[i], make([]byte, 512)) }

// do: the changes, and the sectors as they are behind them.
func (s disc) do(plan []change, more ...change) []change {
	for _, c := range more {
		if !c.flush {
			s[c.sector] = joined(c.bytes)
		}
	}
	return append(plan, more...)
}

func withLast(b []byte, c byte) []byte { return joined(b[:511], []byte{c}) }

// senseless: each of the ways in which sector 0 makes no sense.
func senseless(b []byte, p int) bool {
	if b[511] == 0 {
		return false
	}
	if b[511] != 1 {
		return true
	}
	for i := 32; i <= 510; i++ {
		if b[i] != 0 {
			return true
		}
	}
	bits := 0
	for n := range 256 {
		if b[n/8]&(1<<(n%8)) != 0 {
			bits++
			if n >= p {
				return true
			}
		}
	}
	return bits == 0
}

// planOpen: P9.3, of a disk that runs and has room.
func planOpen(d *sectors.Device) (plan []change, again bool, code api.Errno) {
	s, p := discOf(d), wordsRoom(d.Sectors())
	if len(d.Cache()) > 0 {
		plan = s.do(plan, flushing())
	}
	if senseless(s[0], p) {
		return plan, false, api.ErrLog
	}
	if s[0][511] == 1 {
		again = true
		for n := range p {
			if s[0][n/8]&(1<<(n%8)) != 0 {
				plan = s.do(plan, halves(1+2*p+2*n, joined(s[1+2*n], s[2+2*n]))...)
			}
		}
		plan = s.do(plan, flushing(), writing(0, withLast(s[0], 0)), flushing())
	}
	return s.wiped(plan, 0, 2*p, -1), again, api.OK
}

// planClear: P9.4, of a disk that runs and has room.
func planClear(d *sectors.Device) (plan []change) {
	s, p := discOf(d), wordsRoom(d.Sectors())
	if len(d.Cache()) > 0 {
		plan = s.do(plan, flushing())
	}
	if s[0][511] != 0 {
		plan = s.do(plan, writing(0, withLast(s[0], 0)), flushing())
	}
	return s.wiped(plan, 0, 2*p, 4*p+1)
}

// wiped: each sector from first to last, and from rest on (below 0: none), that is not zeros.
func (s disc) wiped(plan []change, first, last, rest int) []change {
	some := false
	for i := range s {
		if (i >= first && i <= last || rest >= 0 && i >= rest) && s.nonzero(i) {
			plan = s.do(plan, writing(i, make([]byte, 512)))
			some = true
		}
	}
	if some {
		plan = s.do(plan, flushing())
	}
	return plan
}

// planCommit: P9.7, of pages that are not refused.
func planCommit(p int, pages []api.PageWrite) (plan []change) {
	list := append([]api.PageWrite{}, pages...)
	sort.Slice(list, func(i, j int) bool { return list[i].Number < list[j].Number })
	m := make([]byte, 512)
	for _, w := range list {
		plan = append(plan, halves(1+2*w.Number, w.Bytes)...)
		m[w.Number/8] |= 1 << (w.Number % 8)
	}
	plan = append(plan, flushing(), writing(0, withLast(m, 1)), flushing())
	for _, w := range list {
		plan = append(plan, halves(1+2*p+2*w.Number, w.Bytes)...)
	}
	plan = append(plan, flushing(), writing(0, m), flushing(), writing(0, make([]byte, 512)))
	for _, w := range list {
		plan = append(plan, halves(1+2*w.Number, make([]byte, 1024))...)
	}
	return append(plan, flushing())
}

// carriedOut: the plan's calls, up to the first that the disk refuses.
func carriedOut(d *sectors.Device, plan []change) api.Errno {
	for _, c := range plan {
		e := api.OK
		if c.flush {
			e = d.Flush()
		} else {
			e = d.Write(c.sector, c.bytes)
		}
		if e != api.OK {
			return e
		}
	}
	return api.OK
}

// pendingAt: how many writes are pending when the changing call of this number (from 1 on) crashes, if so many were ahead of the plan.
func pendingAt(plan []change, step, ahead int) int {
	n := ahead
	for k, c := range plan[:step] {
		if !c.flush {
			n++
		} else if k < step-1 {
			n = 0
		}
	}
	return n
}

func keepOf(bits ...int) []uint64 {
	keep := make([]uint64, 20)
	for _, k := range bits {
		keep[k/64] |= 1 << (k % 64)
	}
	return keep
}

// losses: of n pending writes nothing kept, all, each single one, all but one; each torn at some places, alone and with all the others.
func losses(n int) []api.Loss {
	var every []int
	for k := range n {
		every = append(every, k)
	}
	list := []api.Loss{{Torn: -1}, {Keep: keepOf(every...), Torn: -1}}
	for k := range n {
		others := append(append([]int{}, every[:k]...), every[k+1:]...)
		list = append(list, api.Loss{Keep: keepOf(k), Torn: -1}, api.Loss{Keep: keepOf(others...), Torn: -1})
		for _, at := range []int{1, 32, 511} {
			list = append(list, api.Loss{Torn: k, Offset: at}, api.Loss{Keep: keepOf(others...), Torn: k, Offset: at})
		}
	}
	return list
}
