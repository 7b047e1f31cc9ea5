package store_test

import (
	"fmt"
	"math/rand"
	"testing"

	"lethe/api"
	"lethe/sectors"
	"lethe/store"
)

// isNotOpened: Open of a disk with this image answers this fault, and nothing beside it, and changes nothing.
func isNotOpened(t *testing.T, what string, image []byte, at int, code api.Errno) {
	t.Helper()
	d := diskWith(t, image)
	s, err := store.Open(d)
	isFault(t, what+": Open", err, "Open", at, code)
	if s != nil {
		t.Errorf("%s: a store beside an error", what)
	}
	isAs(t, what, d, taken{image: image})
	if _, at2, code2 := wordsOpen(image); at2 != at || code2 != code {
		t.Errorf("%s: the words say error %d at %d, not %d at %d", what, code2, at2, code, at)
	}
}

// P12.4: wal.Open's errors, each with wal's own Fault.
func TestOpenLogFaults(t *testing.T) {
	for _, c := range []struct {
		what string
		disk *sectors.Device
		code api.Errno
	}{
		{"no disk", nil, api.ErrHandle},
		{"a small disk", zeroDisk(t, 4), api.ErrRoom},
		{"a log of no sense", diskWith(t, joined(withLast(zeros(512), 2), wordsLayout(13, nil)[512:])), api.ErrLog},
		{"a marker of no page", diskWith(t, joined(withLast(zeros(512), 1), wordsLayout(13, nil)[512:])), api.ErrLog},
		{"a log of no sense, and no store", diskWith(t, joined(withLast(zeros(512), 2), zeros(12*512))), api.ErrLog},
	} {
		s, err := store.Open(c.disk)
		isLower(t, c.what, err, "Open", "Open", c.code)
		if s != nil || c.disk != nil && c.disk.Calls() != 0 {
			t.Errorf("%s: a store beside an error, or the disk was called", c.what)
		}
	}
	for _, n := range []int{4, 13} {
		d := zeroDisk(t, n)
		isCode(t, "Crash", d.Crash(api.Loss{}), api.OK)
		_, err := store.Open(d)
		isLower(t, "down", err, "Open", "Open", api.ErrDown)
	}
}

// P12.4: Open does to a disk what wal.Open does, and no more, wherever it gives up; also if it is refused then.
func TestOrderOfOpen(t *testing.T) {
	for log := range 5 {
		for homes := range 3 {
			for _, pending := range []int{0, 2} {
				disk := func() *sectors.Device { return oddDisk(t, log, homes, 0, pending) }
				what := fmt.Sprintf("log %d, homes %d, %d pending", log, homes, pending)
				d, twin, plan := disk(), disk(), planOpen(disk())
				store.Open(d)
				isCode(t, what, carriedOut(twin, plan), api.OK)
				isAs(t, what, d, take(twin))
				for step := 1; step <= len(plan); step++ {
					for _, loss := range someLosses(pendingAt(plan, step, pending)) {
						d, twin := disk(), disk()
						isCode(t, what, d.Arm(step, loss), api.OK)
						isCode(t, what, twin.Arm(step, loss), api.OK)
						_, err := store.Open(d)
						isLower(t, what, err, "Open", "Open", api.ErrDown)
						carriedOut(twin, plan)
						isAs(t, what, d, take(twin))
					}
				}
			}
		}
	}
}

// P12.4: a store whose last change is in the log is opened behind it.
func TestOpenFinishesTheLog(t *testing.T) {
	was, wanted := recs(rec(1, "a", "z")), recs(rec(1, "a", "z"), sized("b", 905), sized("c", 905))
	plan := planCommit(4, was, wanted)
	for step := range len(plan) + 1 {
		d, _ := loaded(t, 17, was...)
		carriedOut(d, plan[:step])
		list := was
		if step >= 8 { // three pages' slots, a Flush, the marker: it is pending, and flushed by the Open
			list = wanted
		}
		s, err := store.Open(d)
		if err != nil {
			t.Errorf("step %d: %v", step, err)
			continue
		}
		isLaidOut(t, fmt.Sprintf("step %d", step), d, s, list)
	}
}

// pagesOf: the layout of three records in two of four pages, to be spoilt.
func pagesOf() [][]byte { return wordsPages(4, threeRecords()) }

func threeRecords() []api.Record { return recs(sized("a", 100), sized("b", 905), sized("c", 905)) }

// P12.4: each fault of page 0, at 0.
func TestOpenHeadFaults(t *testing.T) {
	for _, c := range []struct {
		what string
		head []byte
		code api.Errno
	}{
		{"zeros", zeros(1024), api.ErrMark},
		{"a page of records", wordsPage(1, threeRecords()[0]), api.ErrKind},
		{"another checksum", joined(wordsHead(4, 2, 3)[:15], []byte{0x55}, wordsHead(4, 2, 3)[16:]), api.ErrSum},
		{"a byte behind its content", rawPage(1, 0, 0, 8, joined(two(4), two(2), four(3), []byte{1})), api.ErrSlack},
		{"another length", rawPage(1, 0, 0, 9, joined(two(4), two(2), four(3))), api.ErrSize},
		{"too many used", wordsHead(4, 4, 3), api.ErrPlace},
		{"too many pages", wordsHead(251, 2, 3), api.ErrPlace},
		{"one page less", wordsHead(3, 2, 3), api.ErrFormat},
		{"one page more", wordsHead(5, 2, 3), api.ErrFormat},
		{"as many as pages can be", wordsHead(250, 2, 3), api.ErrFormat},
		{"one record less", wordsHead(4, 2, 2), api.ErrFormat},
		{"one record more", wordsHead(4, 2, 4), api.ErrFormat},
		{"no record", wordsHead(4, 2, 0), api.ErrFormat},
	} {
		pages := pagesOf()
		pages[0] = c.head
		isNotOpened(t, c.what, imageOf(pages), 0, c.code)
	}
}

// P12.4: each fault of a page of records, at its number: page's, then pack's, then the order from page to page.
func TestOpenPageFaults(t *testing.T) {
	short := func(n int) []byte { return rawPage(2, n, 1, 100, laid(sized("k", 100))[:100]) }
	for _, c := range []struct {
		what string
		page func(n int) []byte
		code api.Errno
	}{
		{"zeros", func(int) []byte { return zeros(1024) }, api.ErrMark},
		{"a head", func(int) []byte { return wordsHead(4, 2, 3) }, api.ErrKind},
		{"another checksum", func(n int) []byte { return joined(wordsPage(n, sized("k", 9))[:1023], []byte{7}) }, api.ErrSum},
		{"another number", func(n int) []byte { return wordsPage(3-n, sized("k", 9)) }, api.ErrPage},
		{"no record", func(n int) []byte { return rawPage(2, n, 0, 1008, zeros(1008)) }, api.ErrPlace},
		{"no content", func(n int) []byte { return rawPage(2, n, 1, 0, nil) }, api.ErrEmpty},
		{"a content too long", func(n int) []byte { return rawPage(2, n, 1, 1009, nil) }, api.ErrLong},
		{"a byte behind the content", func(n int) []byte { return rawPage(2, n, 1, 9, laid(sized("k", 10))) }, api.ErrSlack},
		{"a content too short", short, api.ErrShort},
		{"one byte too short", func(n int) []byte { return rawPage(2, n, 1, 1007, laid(sized("k", 9))[:1007]) }, api.ErrShort},
		{"a table too great", func(n int) []byte { return wordsPage(n, rec(16, "k", "x")) }, api.ErrRecord},
		{"more records told", func(n int) []byte { return rawPage(2, n, 2, 1008, laid(sized("k", 9))) }, api.ErrRecord},
		{"as many as can be told", func(n int) []byte { return rawPage(2, n, 65535, 1008, laid(sized("k", 9))) }, api.ErrRecord},
		{"out of order", func(n int) []byte { return wordsPage(n, sized("k", 9), sized("j", 9)) }, api.ErrOrder},
		{"twice", func(n int) []byte { return wordsPage(n, sized("k", 9), sized("k", 10)) }, api.ErrOrder},
		{"fewer records told", func(n int) []byte { return rawPage(2, n, 1, 1008, laid(sized("k", 9), sized("l", 9))) }, api.ErrSlack},
	} {
		for n := 1; n <= 2; n++ {
			pages := pagesOf()
			pages[n] = c.page(n)
			isNotOpened(t, fmt.Sprintf("%s, page %d", c.what, n), imageOf(pages), n, c.code)
		}
		pages := pagesOf()
		pages[1], pages[2] = c.page(1), zeros(1024)
		isNotOpened(t, c.what+", two faults", imageOf(pages), 1, c.code)
	}
	a, b, c := threeRecords()[0], threeRecords()[1], threeRecords()[2]
	for _, pages := range [][][]byte{
		{wordsHead(4, 2, 3), wordsPage(1, a, c), wordsPage(2, b), zeros(1024)},
		{wordsHead(4, 2, 3), wordsPage(1, a, b), wordsPage(2, b), zeros(1024)},
		{wordsHead(4, 2, 3), wordsPage(1, a, b), wordsPage(2, a, c), zeros(1024)},
		{wordsHead(4, 3, 4), wordsPage(1, a), wordsPage(2, a, b), wordsPage(3, c)},
	} {
		isNotOpened(t, "order from page to page", imageOf(pages), 2, api.ErrOrder)
	}
	isNotOpened(t, "order from page 2 to 3", imageOf([][]byte{wordsHead(4, 3, 3), wordsPage(1, a), wordsPage(2, c), wordsPage(3, b)}), 3, api.ErrOrder)
}

// P12.4: records that would have stood in other pages.
func TestOpenSplit(t *testing.T) {
	a, b, c, d := sized("a", 400), sized("b", 400), sized("c", 208), sized("d", 400)
	for i, row := range []struct {
		at    int
		pages [][]byte
	}{
		{1, [][]byte{wordsHead(5, 3, 4), wordsPage(1, a, b), wordsPage(2, c), wordsPage(3, d)}},
		{1, [][]byte{wordsHead(5, 2, 4), wordsPage(1, a, b), wordsPage(2, c, d)}},
		{1, [][]byte{wordsHead(5, 2, 2), wordsPage(1, a), wordsPage(2, b)}},
		{1, [][]byte{wordsHead(5, 4, 4), wordsPage(1, a), wordsPage(2, b), wordsPage(3, c), wordsPage(4, d)}},
		{2, [][]byte{wordsHead(5, 3, 5), wordsPage(1, a, b, c), wordsPage(2, d), wordsPage(3, rec(1, "e", ""))}},
		{3, [][]byte{wordsHead(5, 4, 7), wordsPage(1, a, b, c), wordsPage(2, d), wordsPage(3, sized("e", 700)), wordsPage(4, sized("f", 308), sized("g", 308))}},
	} {
		for len(row.pages) < 5 {
			row.pages = append(row.pages, zeros(1024))
		}
		isNotOpened(t, fmt.Sprintf("row %d", i), imageOf(row.pages), row.at, api.ErrSplit)
	}
}

// P12.4: bytes behind the used pages, and behind the homes: each byte of them.
func TestOpenSlack(t *testing.T) {
	for _, at := range []int{0, 1, 15, 16, 511, 512, 1000, 1023} {
		for n := 3; n <= 4; n++ {
			pages := append(pagesOf(), zeros(1024))
			pages[0] = wordsHead(5, 2, 3)
			pages[n][at] = 1
			isNotOpened(t, fmt.Sprintf("page %d, byte %d", n, at), imageOf(pages), n, api.ErrSlack)
			pages[4][9] = 9
			isNotOpened(t, fmt.Sprintf("page %d, byte %d, and page 4", n, at), imageOf(pages), n, api.ErrSlack)
		}
		rest := zeros(3 * 512)
		for _, i := range []int{at, 512 + at} {
			rest[i] = 0x80
			isNotOpened(t, fmt.Sprintf("behind the homes, byte %d", i), imageOf(pagesOf(), rest...), 4, api.ErrSlack)
			rest[i] = 0
		}
	}
	pages := pagesOf()
	pages[3] = wordsPage(3, sized("d", 500))
	isNotOpened(t, "a page more than are told", imageOf(pages), 3, api.ErrSlack)
	pages[3][0] = 1
	isNotOpened(t, "a page and the rest", imageOf(pages, append(zeros(511), 1)...), 3, api.ErrSlack)
}

// fault: one thing that is wrong with a disk, and what is told of it.
type fault struct {
	spoil func(pages [][]byte, rest []byte)
	at    int
	code  api.Errno
}

// openFaults: one of each of the chapter's numbers, in its order.
func openFaults() []fault {
	a, b, c := threeRecords()[0], threeRecords()[1], threeRecords()[2]
	return []fault{
		{func(p [][]byte, rest []byte) { p[0][0] = 1 }, 0, api.ErrMark},
		{func(p [][]byte, rest []byte) { p[0] = wordsHead(9, 2, number(p[0][20:24])) }, 0, api.ErrFormat},
		{func(p [][]byte, rest []byte) { p[1][1] = 7 }, 1, api.ErrKind},
		{func(p [][]byte, rest []byte) { p[1] = wordsPage(1, b, a) }, 1, api.ErrOrder},
		{func(p [][]byte, rest []byte) { p[2] = joined(zeros(1), p[2][1:]) }, 2, api.ErrMark},
		{func(p [][]byte, rest []byte) { p[2] = rawPage(2, 2, 3, 1008, laid(c)) }, 2, api.ErrRecord},
		{func(p [][]byte, rest []byte) { p[2] = wordsPage(2, a) }, 2, api.ErrOrder},
		{func(p [][]byte, rest []byte) { p[0] = wordsHead(4, 2, 4) }, 0, api.ErrFormat},
		{func(p [][]byte, rest []byte) { p[1], p[2] = wordsPage(1, a), wordsPage(2, sized("b", 100), c) }, 1, api.ErrSplit},
		{func(p [][]byte, rest []byte) { p[3][700] = 1 }, 3, api.ErrSlack},
		{func(p [][]byte, rest []byte) { rest[5] = 1 }, 4, api.ErrSlack},
	}
}

// P12.4: any two faults together: the first in the chapter's order is told.
func TestOpenFaultsInOrder(t *testing.T) {
	faults := openFaults()
	for i, first := range faults {
		for j, second := range faults[i:] {
			pages, rest := pagesOf(), zeros(512)
			second.spoil(pages, rest)
			first.spoil(pages, rest)
			isNotOpened(t, fmt.Sprintf("faults %d and %d", i, i+j), imageOf(pages, rest...), first.at, first.code)
		}
	}
}

// P12.4: Open takes just the layouts: drawn ones, on disks of many sizes; and with any byte of the homes or the rest changed none, with what the words say.
func TestOpenTakesLayoutsAlone(t *testing.T) {
	r := rand.New(rand.NewSource(3))
	for run := range 60 {
		n := 5 + r.Intn(40)
		list := drawnList(r, 30, n)
		image := wordsLayout(n, list)
		d := diskWith(t, image)
		isLaidOut(t, fmt.Sprintf("run %d", run), d, opened(t, d), list)
		isAs(t, "opened", d, taken{image: image})
		from := 512 * (1 + 2*wordsRoom(n))
		for range 60 {
			spoilt := joined(image)
			i := from + r.Intn(len(image)-from)
			if r.Intn(2) == 0 {
				i = from + 1024*r.Intn((len(image)-from)/1024) + r.Intn(32)
			}
			spoilt[i] ^= byte(1 + r.Intn(255))
			_, at, code := wordsOpen(spoilt)
			isNotOpened(t, fmt.Sprintf("run %d, byte %d", run, i), spoilt, at, code)
		}
	}
}

// P12.4: as the words say it, also of pages whose checksums fit what was changed in them.
func TestOpenAsTheWordsSay(t *testing.T) {
	r := rand.New(rand.NewSource(4))
	refused := map[api.Errno]int{}
	for run := range 3000 {
		list := drawnList(r, 12, 25)
		pages := wordsPages(6, list)
		for range r.Intn(3) {
			spoilDrawn(r, pages, list)
		}
		image := imageOf(pages)
		want, at, code := wordsOpen(image)
		refused[code]++
		if code != api.OK {
			isNotOpened(t, fmt.Sprintf("run %d", run), image, at, code)
			continue
		}
		d := diskWith(t, image)
		isLaidOut(t, fmt.Sprintf("run %d", run), d, opened(t, d), want)
	}
	for _, code := range []api.Errno{api.OK, api.ErrMark, api.ErrKind, api.ErrPage, api.ErrFormat, api.ErrRecord, api.ErrOrder, api.ErrSlack, api.ErrSplit} {
		if refused[code] == 0 {
			t.Errorf("no drawn disk has the answer %d", code)
		}
	}
}

// spoilDrawn: one drawn change of a disk's pages, most of them with a checksum that fits.
func spoilDrawn(r *rand.Rand, pages [][]byte, list []api.Record) {
	k := r.Intn(len(pages))
	switch r.Intn(7) {
	case 0:
		pages[k][r.Intn(24)] ^= byte(1 << r.Intn(8))
		pages[k] = resealed(pages[k])
	case 1:
		pages[k][16+r.Intn(40)] ^= byte(1 << r.Intn(8))
		pages[k] = resealed(pages[k])
	case 2:
		pages[0] = wordsHead(6, r.Intn(6), len(list)+r.Intn(2))
	case 3:
		j := r.Intn(len(pages))
		pages[k], pages[j] = pages[j], pages[k]
	case 4:
		pages[k] = zeros(1024)
	case 5:
		n := 1 + r.Intn(5)
		pages[n] = wordsPage(n, drawnRecord(r))
	case 6:
		for i := range min(5, len(list)) {
			pages[i+1] = wordsPage(i+1, list[i])
		}
		pages[0] = wordsHead(6, min(5, len(list)), min(5, len(list)))
	}
}
