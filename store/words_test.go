package store_test

import (
	"bytes"
	"hash/crc32"
	"sort"

	"lethe/api"
	"lethe/sectors"
)

// The chapters' sentences, made without any of what the program uses.

// wordsRoom: the greatest number up to 250 for which 4 p + 1 is at most s.
func wordsRoom(s int) int {
	p := 0
	for p < 250 && 4*(p+1)+1 <= s {
		p++
	}
	return p
}

func wordsIsRecord(r api.Record) bool {
	return r.Table >= 0 && r.Table <= 15 && len(r.Key) >= 1 && len(r.Key) <= 64 && len(r.Value) <= 900
}

// wordsAhead: does a stand ahead of b?
func wordsAhead(a, b api.Record) bool {
	return a.Table < b.Table || a.Table == b.Table && string(a.Key) < string(b.Key)
}

func wordsOnePlace(r api.Record, table int, key []byte) bool {
	return r.Table == table && string(r.Key) == string(key)
}

func wordsPut(list []api.Record, r api.Record) []api.Record {
	all := append(wordsDelete(list, r.Table, r.Key), r)
	sort.Slice(all, func(i, j int) bool { return wordsAhead(all[i], all[j]) })
	return all
}

func wordsDelete(list []api.Record, table int, key []byte) []api.Record {
	var left []api.Record
	for _, r := range list {
		if !wordsOnePlace(r, table, key) {
			left = append(left, r)
		}
	}
	return left
}

func wordsGet(list []api.Record, table int, key []byte) (string, api.Errno) {
	for _, r := range list {
		if wordsOnePlace(r, table, key) {
			return string(r.Value), api.OK
		}
	}
	return "", api.ErrMissing
}

func wordsScan(list []api.Record, table int, prefix []byte) []api.Record {
	var some []api.Record
	for _, r := range list {
		if r.Table == table && len(r.Key) >= len(prefix) && string(r.Key[:len(prefix)]) == string(prefix) {
			some = append(some, r)
		}
	}
	return some
}

// two, four: a number, the highest byte first.
func two(n int) []byte  { return []byte{byte(n >> 8), byte(n)} }
func four(n int) []byte { return []byte{byte(n >> 24), byte(n >> 16), byte(n >> 8), byte(n)} }

// resealed: the same page with a checksum that fits it.
func resealed(b []byte) []byte {
	c := joined(b)
	copy(c[12:16], zeros(4))
	copy(c[12:16], four(int(crc32.Checksum(c, crc32.MakeTable(crc32.Castagnoli)))))
	return c
}

// rawPage: a page told by its fields, right or wrong, with a checksum that fits.
func rawPage(kind, number, count, length int, rest []byte) []byte {
	return resealed(joined([]byte{0xd6, byte(kind)}, two(number), two(count), two(length), zeros(8), rest, zeros(1008-len(rest))))
}

func wordsHead(pages, used, records int) []byte {
	return rawPage(1, 0, 0, 8, joined(two(pages), two(used), four(records)))
}

func wordsBytes(r api.Record) []byte {
	return joined([]byte{byte(r.Table), byte(len(r.Key))}, r.Key, two(len(r.Value)), r.Value)
}

// laid: the bytes of any records, right or wrong, with zeros behind them up to the content's end.
func laid(list ...api.Record) []byte {
	var all []byte
	for _, r := range list {
		all = append(all, wordsBytes(r)...)
	}
	return joined(all, zeros(1008-len(all)))
}

// wordsPage: with these records, in their order or not.
func wordsPage(number int, list ...api.Record) []byte {
	return rawPage(2, number, len(list), 1008, laid(list...))
}

// wordsSplit: a sorted list as the pages take it.
func wordsSplit(list []api.Record) [][]api.Record {
	var parts [][]api.Record
	left := 0
	for _, r := range list {
		n := len(wordsBytes(r))
		if len(parts) == 0 || n > left {
			parts, left = append(parts, nil), 1008
		}
		parts[len(parts)-1] = append(parts[len(parts)-1], r)
		left -= n
	}
	return parts
}

// wordsPages: all pages of the layout on a disk with room for p; the list has room.
func wordsPages(p int, list []api.Record) [][]byte {
	parts := wordsSplit(list)
	pages := [][]byte{wordsHead(p, len(parts), len(list))}
	for i, part := range parts {
		pages = append(pages, wordsPage(i+1, part...))
	}
	for len(pages) < p {
		pages = append(pages, zeros(1024))
	}
	return pages
}

// imageOf: zeros for the log, these pages, then the rest.
func imageOf(pages [][]byte, rest ...byte) []byte {
	return joined(zeros(512*(2*len(pages)+1)), joined(pages...), rest)
}

// wordsLayout: the image.
func wordsLayout(sectors int, list []api.Record) []byte {
	p := wordsRoom(sectors)
	return imageOf(wordsPages(p, list), zeros(512*(sectors-4*p-1))...)
}

// The model of the disk's calls: which changing ones the chapters' words name, in their order.

// change: a Write of a sector, or a Flush.
type change struct {
	flush  bool
	sector int
	bytes  []byte
}

func flushing() change { return change{flush: true} }

func writing(sector int, b []byte) change { return change{sector: sector, bytes: joined(b)} }

// halves: Writes of two sectors that follow each other.
func halves(sector int, page []byte) []change {
	return []change{writing(sector, page[:512]), writing(sector+1, page[512:])}
}

// disc: the sectors as they are read.
type disc [][]byte

func discOf(d *sectors.Device) disc {
	var all disc
	for i := range d.Sectors() {
		b, _ := d.Read(i)
		all = append(all, b)
	}
	return all
}

func (s disc) nonzero(i int) bool { return !bytes.Equal(s[i], zeros(512)) }

// do: the changes, and the sectors as they are behind them.
func (s disc) do(plan []change, more ...change) []change {
	for _, c := range more {
		if !c.flush {
			s[c.sector] = joined(c.bytes)
		}
	}
	return append(plan, more...)
}

func withLast(b []byte, c byte) []byte { return joined(b[:511], []byte{c}) }

// senseless: P9.3's sector 0 that makes no sense.
func senseless(b []byte, p int) bool {
	bits := 0
	for n := range 256 {
		if b[n/8]&(1<<(n%8)) != 0 {
			bits++
			if n >= p {
				bits = -1000
			}
		}
	}
	return b[511] > 1 || b[511] == 1 && (bits <= 0 || !bytes.Equal(b[32:511], zeros(479)))
}

// openLog: P9.3 without its Flush at the beginning, of a sector 0 that makes sense.
func (s disc) openLog(plan []change, p int) []change {
	if s[0][511] == 1 {
		for n := range p {
			if s[0][n/8]&(1<<(n%8)) != 0 {
				plan = s.do(plan, halves(1+2*p+2*n, joined(s[1+2*n], s[2+2*n]))...)
			}
		}
		plan = s.do(plan, flushing(), writing(0, withLast(s[0], 0)), flushing())
	}
	return s.wiped(plan, func(i int) bool { return i <= 2*p })
}

// clearLog: P9.4 without its Flush at the beginning.
func (s disc) clearLog(plan []change, p int) []change {
	if s[0][511] != 0 {
		plan = s.do(plan, writing(0, withLast(s[0], 0)), flushing())
	}
	return s.wiped(plan, func(i int) bool { return i <= 2*p || i >= 4*p+1 })
}

func (s disc) wiped(plan []change, which func(i int) bool) []change {
	some := false
	for i := range s {
		if which(i) && s.nonzero(i) {
			plan = s.do(plan, writing(i, zeros(512)))
			some = true
		}
	}
	if some {
		plan = s.do(plan, flushing())
	}
	return plan
}

// planOpen: P12.4: what wal.Open does, and no more.
func planOpen(d *sectors.Device) []change {
	s, p := discOf(d), wordsRoom(d.Sectors())
	var plan []change
	if len(d.Cache()) > 0 {
		plan = s.do(plan, flushing())
	}
	if senseless(s[0], p) {
		return plan
	}
	return s.openLog(plan, p)
}

// stage: which of a Load's calls of wal or the disk itself a plan's change belongs to, so that the Fault of it is known.
type stage struct {
	lower string // "": the disk itself
	ends  int    // how many changes there are up to its end
}

// planLoad: P12.2, of a disk that runs and records that have room.
func planLoad(d *sectors.Device, list []api.Record) (plan []change, stages []stage) {
	s, p := discOf(d), wordsRoom(d.Sectors())
	if len(d.Cache()) > 0 {
		plan = s.do(plan, flushing())
	}
	if senseless(s[0], p) {
		stages = append(stages, stage{"Open", len(plan)})
		plan = s.clearLog(plan, p)
		stages = append(stages, stage{"Clear", len(plan)})
	}
	plan = s.openLog(plan, p)
	stages = append(stages, stage{"Open", len(plan)})
	plan = s.wiped(plan, func(i int) bool { return i >= 4*p+1 })
	stages = append(stages, stage{"", len(plan)})
	var some []api.PageWrite
	for n, b := range wordsPages(p, list) {
		if !bytes.Equal(b, joined(s[1+2*p+2*n], s[2+2*p+2*n])) {
			some = append(some, api.PageWrite{Number: n, Bytes: b})
		}
	}
	plan = append(plan, planPages(p, some)...)
	return plan, append(stages, stage{"Commit", len(plan)})
}

// planCommit: P12.11, from one list to another that has room.
func planCommit(p int, was, wanted []api.Record) []change {
	old := wordsPages(p, was)
	var some []api.PageWrite
	for n, b := range wordsPages(p, wanted) {
		if !bytes.Equal(b, old[n]) {
			some = append(some, api.PageWrite{Number: n, Bytes: b})
		}
	}
	return planPages(p, some)
}

// planPages: P9.7, of pages of rising numbers.
func planPages(p int, list []api.PageWrite) (plan []change) {
	if len(list) == 0 {
		return nil
	}
	m := zeros(512)
	for _, w := range list {
		plan = append(plan, halves(1+2*w.Number, w.Bytes)...)
		m[w.Number/8] |= 1 << (w.Number % 8)
	}
	plan = append(plan, flushing(), writing(0, withLast(m, 1)), flushing())
	for _, w := range list {
		plan = append(plan, halves(1+2*p+2*w.Number, w.Bytes)...)
	}
	plan = append(plan, flushing(), writing(0, m), flushing(), writing(0, zeros(512)))
	for _, w := range list {
		plan = append(plan, halves(1+2*w.Number, zeros(1024))...)
	}
	return append(plan, flushing())
}

// carriedOut: the plan's calls, up to the first that the disk refuses.
func carriedOut(d *sectors.Device, plan []change) api.Errno {
	for _, c := range plan {
		e := api.OK
		if c.flush {
			e = d.Flush()
		} else {
			e = d.Write(c.sector, c.bytes)
		}
		if e != api.OK {
			return e
		}
	}
	return api.OK
}

// pendingAt: how many writes are pending when the changing call of this number (from 1 on) crashes, if so many were ahead of the plan.
func pendingAt(plan []change, step, ahead int) int {
	n := ahead
	for k, c := range plan[:step] {
		if !c.flush {
			n++
		} else if k < step-1 {
			n = 0
		}
	}
	return n
}

func keepOf(bits ...int) []uint64 {
	keep := make([]uint64, 20)
	for _, k := range bits {
		keep[k/64] |= 1 << (k % 64)
	}
	return keep
}

// losses: of n pending writes nothing kept, all, each single one, all but one; each torn at some places.
func losses(n int) []api.Loss {
	var every []int
	for k := range n {
		every = append(every, k)
	}
	list := []api.Loss{{Torn: -1}, {Keep: keepOf(every...), Torn: -1}}
	for k := range n {
		others := append(append([]int{}, every[:k]...), every[k+1:]...)
		list = append(list, api.Loss{Keep: keepOf(k), Torn: -1}, api.Loss{Keep: keepOf(others...), Torn: -1},
			api.Loss{Torn: k, Offset: 20}, api.Loss{Keep: keepOf(others...), Torn: k, Offset: 511})
	}
	return list
}

// someLosses: a few of them: enough to tell each pending write from the others.
func someLosses(n int) []api.Loss {
	list := losses(n)
	if n == 0 {
		return list[:1]
	}
	return []api.Loss{list[0], list[1], list[len(list)-4], list[len(list)-1]}
}

// wordsOpen: P12.4 of an image whose log is done: the records, or the fault and where it is.
func wordsOpen(image []byte) (list []api.Record, at int, code api.Errno) {
	p := wordsRoom(len(image) / 512)
	home := func(n int) []byte { return image[512*(1+2*p+2*n) : 512*(3+2*p+2*n)] }
	pages, used, records, code := wordsOpenHead(home(0))
	if code != api.OK {
		return nil, 0, code
	}
	if pages != p {
		return nil, 0, api.ErrFormat
	}
	var counts []int
	for n := 1; n <= used; n++ {
		count, content, code := wordsOpenPage(home(n), n)
		if code != api.OK {
			return nil, n, code
		}
		part, code := wordsDecode(count, content)
		if code != api.OK {
			return nil, n, code
		}
		if n > 1 && !wordsAhead(list[len(list)-1], part[0]) {
			return nil, n, api.ErrOrder
		}
		list, counts = append(list, part...), append(counts, count)
	}
	if len(list) != records {
		return nil, 0, api.ErrFormat
	}
	for i, part := range append(wordsSplit(list), make([][]api.Record, 250)...) {
		if i < len(counts) && len(part) != counts[i] || i >= len(counts) && len(part) != 0 {
			return nil, i + 1, api.ErrSplit
		}
	}
	for n := used + 1; n < p; n++ {
		if !bytes.Equal(home(n), zeros(1024)) {
			return nil, n, api.ErrSlack
		}
	}
	if rest := image[512*(4*p+1):]; !bytes.Equal(rest, zeros(len(rest))) {
		return nil, p, api.ErrSlack
	}
	return list, 0, api.OK
}

func number(b []byte) int {
	n := 0
	for _, c := range b {
		n = n<<8 | int(c)
	}
	return n
}

// wordsCommon: what P10.4 and P10.6 ask for alike, of 1024 bytes.
func wordsCommon(b []byte, kind byte) api.Errno {
	switch {
	case b[0] != 0xd6:
		return api.ErrMark
	case b[1] != kind:
		return api.ErrKind
	case !bytes.Equal(b, resealed(b)):
		return api.ErrSum
	}
	return api.OK
}

func wordsOpenHead(b []byte) (pages, used, records int, code api.Errno) {
	if e := wordsCommon(b, 1); e != api.OK {
		return 0, 0, 0, e
	}
	pages, used, records = number(b[16:18]), number(b[18:20]), number(b[20:24])
	switch {
	case !bytes.Equal(b[2:6], zeros(4)) || !bytes.Equal(b[8:12], zeros(4)) || !bytes.Equal(b[24:], zeros(1000)):
		return 0, 0, 0, api.ErrSlack
	case number(b[6:8]) != 8:
		return 0, 0, 0, api.ErrSize
	case pages < 1 || pages > 250 || used > pages-1 || records > 65535*used:
		return 0, 0, 0, api.ErrPlace
	}
	return pages, used, records, api.OK
}

func wordsOpenPage(b []byte, n int) (count int, content []byte, code api.Errno) {
	if e := wordsCommon(b, 2); e != api.OK {
		return 0, nil, e
	}
	count, length := number(b[4:6]), number(b[6:8])
	switch {
	case number(b[2:4]) != n:
		return 0, nil, api.ErrPage
	case count == 0:
		return 0, nil, api.ErrPlace
	case !bytes.Equal(b[8:12], zeros(4)):
		return 0, nil, api.ErrSlack
	case length == 0:
		return 0, nil, api.ErrEmpty
	case length > 1008:
		return 0, nil, api.ErrLong
	case !bytes.Equal(b[16+length:], zeros(1008-length)):
		return 0, nil, api.ErrSlack
	}
	return count, b[16 : 16+length], api.OK
}

// wordsDecode: P11.6, of a count above 0 and at most 1008 bytes.
func wordsDecode(count int, content []byte) (list []api.Record, code api.Errno) {
	if len(content) < 1008 {
		return nil, api.ErrShort
	}
	for len(list) < count {
		r, n := wordsRead(content)
		if n == 0 {
			return nil, api.ErrRecord
		}
		if len(list) > 0 && !wordsAhead(list[len(list)-1], r) {
			return nil, api.ErrOrder
		}
		list, content = append(list, r), content[n:]
	}
	if !bytes.Equal(content, zeros(len(content))) {
		return nil, api.ErrSlack
	}
	return list, api.OK
}

// wordsRead: the record at the beginning of b, and how many bytes it has; 0: none stands there.
func wordsRead(b []byte) (api.Record, int) {
	if len(b) < 2 || len(b) < 4+int(b[1]) {
		return api.Record{}, 0
	}
	valueAt := 4 + int(b[1])
	end := valueAt + number(b[valueAt-2:valueAt])
	if end > len(b) {
		return api.Record{}, 0
	}
	r := api.Record{Table: int(b[0]), Key: joined(b[2 : valueAt-2]), Value: joined(b[valueAt:end])}
	if !wordsIsRecord(r) {
		return api.Record{}, 0
	}
	return r, end
}
