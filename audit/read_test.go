package audit_test

import (
	"fmt"
	"testing"

	"lethe/api"
)

// P27.1: an image's length is looked at ahead of all that stands in it.
func TestSizes(t *testing.T) {
	for _, size := range []int{1, 2, 511, 513, 1023, 1025, 1536 + 1, 2559, 2561, 4607, 4609, 512*4096 - 1, 512*4096 + 1, 512*4096 + 511, 512 * 4097, 512 * 8192, 512 * 65536, 512*65536 + 2560} {
		for _, c := range []byte{0, 0xd6, 0xff} {
			what := fmt.Sprintf("%d bytes %02x", size, c)
			isCode(t, what, isAudited(t, what, full(c, size)), noImage)
		}
	}
	isCode(t, "nil", isAudited(t, "nil", nil), noImage)
	isCode(t, "no bytes", isAudited(t, "no bytes", []byte{}), noImage)
	right := imageOf(9, recs(rec(5, "k", "v")))
	for cut := 1; cut < 512; cut++ {
		isCode(t, "a right image that is cut", isAudited(t, "cut", right[:len(right)-cut]), noImage)
		isCode(t, "a right image and more", isAudited(t, "more", joined(right, zeros(cut))), noImage)
	}
}

// P27.1: disks without room for a page, and the least one that has room.
func TestRoom(t *testing.T) {
	for n := 1; n <= 4; n++ {
		for _, c := range []byte{0, 0xd6, 0xff} {
			what := fmt.Sprintf("%d sectors of %02x", n, c)
			isCode(t, what, isAudited(t, what, full(c, 512*n)), noRoom)
		}
		what := fmt.Sprintf("%d sectors with a head in them", n)
		isCode(t, what, isAudited(t, what, joined(headOf(1, 0, 0), zeros(2048))[:512*n]), noRoom)
	}
	least := imageOf(5)
	isCode(t, "5 sectors", isAudited(t, "5 sectors", least), 0)
	isRegions(t, "5 sectors", least, "Blank:1536 Frame:1560 Blank:2560")
	isCode(t, "5 sectors of zeros", isAudited(t, "5 sectors", zeros(2560)), noMark)
}

// P27.1: every number of sectors up to some pages, and those about the greatest number of pages and of sectors.
func TestSectors(t *testing.T) {
	counts := []int{996, 997, 1000, 1001, 1002, 1004, 1005, 4095, 4096}
	for n := 5; n < 40; n++ {
		counts = append(counts, n)
	}
	for _, n := range counts {
		what := fmt.Sprintf("%d sectors", n)
		isCode(t, what, isAudited(t, what, imageOf(n)), 0)
		if n < 9 {
			continue // no room for a record
		}
		image := imageOf(n, recs(rec(2, "k", string(sample(64, 1))), rec(5, "a", string(sample(32, 2)))))
		isCode(t, what, isAudited(t, what, image), 0)
		dirty := turned(turned(image, len(image)-1, 7), 0, 7)
		if p := wordsRoom(n); p > 2 || n > 4*p+1 {
			isCode(t, what+", dirty", isAudited(t, what+", dirty", dirty), 0)
		}
	}
}

// P27.2, P27.3: a disk of the greatest number of sectors, all of whose pages are used.
func TestGreatest(t *testing.T) {
	var used [][]api.Record
	for n := range 249 {
		used = append(used, recs(rec(5, fmt.Sprintf("k%04d", n), string(sample(32, int64(n)))), sized(6, fmt.Sprintf("k%04d", n), 900)))
		if n > 0 {
			used[n] = used[n][1:]
		}
	}
	image := imageOf(4096, used...)
	isCode(t, "the greatest", isAudited(t, "the greatest", image), 0)
	dirty := laid(laid(image, 0, full(0xff, wordsHome(250, 0))), wordsHome(250, 250), full(0xee, 512*4096-wordsHome(250, 250)))
	isCode(t, "the greatest, dirty", isAudited(t, "the greatest, dirty", dirty), 0)
	isCode(t, "spoilt in its last page", isAudited(t, "spoilt", turned(image, wordsHome(250, 250)-1, 1)), badSum)
}

// scene: a disk of 22 sectors (room for 5 pages, one sector behind the homes) with three used pages, part by part.
type scene struct {
	log, head    []byte
	pages        [3][]byte
	behind, rest []byte
	sealless     [4]bool // whose checksum does not fit: page 0, 1, 2, 3
}

func newScene() scene {
	s := scene{log: zeros(512 * 11), head: headOf(5, 3, 8), behind: zeros(1024), rest: zeros(512)}
	s.pages[0] = pageOf(1, rec(1, "a", "1"), rec(1, "b", "22"), rec(2, "c", ""))
	s.pages[1] = pageOf(2, rec(2, "d", "x"), rec(4, "e", "yy"), rec(4, "f", "z"))
	s.pages[2] = pageOf(3, rec(5, "g", "xx"), rec(15, "h", ""))
	return s
}

// image: each page with a checksum that fits it, unless it is to have none.
func (s scene) image() []byte {
	all := [][]byte{s.log}
	for i, b := range [][]byte{s.head, s.pages[0], s.pages[1], s.pages[2]} {
		b = sealed(b)
		if s.sealless[i] {
			b[14] ^= 4
		}
		all = append(all, b)
	}
	return joined(append(all, s.behind, s.rest)...)
}

// wrong: something by which an image can't be read. Two with the same field don't go together.
type wrong struct {
	name  string
	page  int
	field string
	code  api.Errno
	make  func(s *scene)
}

func headWrongs() []wrong {
	change := func(name, field string, code api.Errno, at int, to byte) wrong {
		return wrong{"head: " + name, 0, field, code, func(s *scene) { s.head[at] = to }}
	}
	return []wrong{
		change("mark", "mark", noMark, 0, 0xd7),
		change("kind", "kind", noKind, 1, 2),
		{"head: sum", 0, "sum", badSum, func(s *scene) { s.sealless[0] = true }},
		change("number", "number", slack, 3, 1),
		change("count", "count", slack, 5, 1),
		change("slack", "slack", slack, 8, 1),
		change("behind the content", "content", slack, 24, 1),
		change("the page's end", "end", slack, 1023, 255),
		change("length", "length", badSize, 7, 9),
		change("used", "used", badPlace, 19, 250),
		change("no pages", "pages", badPlace, 17, 0),
		change("more records than pages hold", "records", badPlace, 20, 255),
		change("more pages", "pages", noFormat, 17, 6),
		change("fewer pages", "pages", noFormat, 17, 4),
	}
}

// pageWrongs: of page n, 1 to 3, in the order in which they are told.
func pageWrongs(n int) []wrong {
	change := func(name, field string, code api.Errno, at int, bytes ...byte) wrong {
		return wrong{fmt.Sprintf("page %d: %s", n, name), n, fmt.Sprint(n, field), code, func(s *scene) { copy(s.pages[n-1][at:], bytes) }}
	}
	list := []wrong{
		change("mark", "mark", noMark, 0, 0xd5),
		change("kind", "kind", noKind, 1, 1),
		{fmt.Sprintf("page %d: sum", n), n, fmt.Sprint(n, "sum"), badSum, func(s *scene) { s.sealless[n] = true }},
		change("number", "number", badPage, 2, 0, byte(n+1)),
		change("number 0", "number", badPage, 2, 0, 0),
		change("count 0", "count", badPlace, 4, 0, 0),
		change("slack", "slack", slack, 11, 1),
		change("length 0", "length", empty, 6, 0, 0),
		change("length 1009", "length", tooLong, 6, 0x03, 0xf1),
		change("length 1", "length", slack, 6, 0, 1), // records stand behind that
		change("length 1007", "length", tooShort, 6, 0x03, 0xef),
		change("table", "first", noRecord, 16, 16),
		change("key of no bytes", "first", noRecord, 17, 0),
		change("count 99", "count", noRecord, 5, 99),
	}
	if n > 1 {
		list = append(list, change("one that stands ahead of the page ahead", "first", noOrder, 16, 0))
	}
	return list
}

// lastWrongs: what is told behind all else.
func lastWrongs() []wrong {
	return []wrong{
		{"fewer records", 4, "records", noFormat, func(s *scene) { s.head[23] = 7 }},
		{"more records", 4, "records", noFormat, func(s *scene) { s.head[23] = 9 }},
		{"no records", 4, "records", noFormat, func(s *scene) { s.head[23] = 0 }},
		{"256 more", 4, "records", noFormat, func(s *scene) { s.head[22] = 1 }},
	}
}

func allWrongs() []wrong {
	list := headWrongs()
	for n := 1; n <= 3; n++ {
		list = append(list, pageWrongs(n)...)
	}
	return append(list, lastWrongs()...)
}

// covers: what bars nothing: a log full of bytes, a page behind the used ones that is none, or is another one, sectors behind the homes.
func covers() []func(s *scene) {
	return []func(s *scene){
		func(s *scene) {},
		func(s *scene) { s.log = full(0xff, len(s.log)) },
		func(s *scene) { s.log = joined([]byte{1}, zeros(510), []byte{1}, headOf(7, 1, 1), zeros(512*8)) }, // a marker that stands
		func(s *scene) { s.behind, s.rest = full(0xd6, 1024), full(1, 512) },
		func(s *scene) { s.behind = pageOf(4, rec(0, "a", "")) },
		func(s *scene) { s.behind = headOf(5, 0, 0) },
	}
}

// P27.1: each of them alone, whatever stands in the log and behind the used pages.
func TestEachFault(t *testing.T) {
	for i, cover := range covers() {
		s := newScene()
		cover(&s)
		what := fmt.Sprintf("cover %d", i)
		isCode(t, what, isAudited(t, what, s.image()), 0)
		for _, w := range allWrongs() {
			s := newScene()
			cover(&s)
			w.make(&s)
			what := fmt.Sprintf("cover %d, %s", i, w.name)
			isCode(t, what, isAudited(t, what, s.image()), w.code)
		}
	}
}

// P27.1: two at a time: the one that is named first is told.
func TestFaultsInTheirOrder(t *testing.T) {
	list := allWrongs()
	for i, first := range list {
		for _, second := range list[i+1:] {
			if first.field == second.field {
				continue
			}
			s := newScene()
			second.make(&s)
			first.make(&s)
			what := first.name + " and " + second.name
			isCode(t, what, isAudited(t, what, s.image()), first.code)
		}
	}
}

// P27.1: the order of records within a page, and from one page to the next.
func TestOrder(t *testing.T) {
	a, b, c, d := rec(1, "a", "x"), rec(1, "b", ""), rec(2, "a", ""), rec(2, "ab", "y")
	for _, k := range []struct {
		used [][]api.Record
		code api.Errno
	}{
		{[][]api.Record{{a, b}, {c, d}}, 0},
		{[][]api.Record{{a}, {b}, {c}, {d}}, 0},
		{[][]api.Record{{b, a}, {c, d}}, noOrder},
		{[][]api.Record{{a, b}, {d, c}}, noOrder},
		{[][]api.Record{{a, c}, {b, d}}, noOrder},
		{[][]api.Record{{a, b}, {b, d}}, noOrder},
		{[][]api.Record{{a, b}, {a, d}}, noOrder},
		{[][]api.Record{{c, d}, {a, b}}, noOrder},
		{[][]api.Record{{a}, {c}, {b}, {d}}, noOrder},
		{[][]api.Record{{a}, {b}, {c}, {c}}, noOrder},
		{[][]api.Record{{a}, {b}, {d}, {c}}, noOrder},
		{[][]api.Record{{a, a}}, noOrder},
		{[][]api.Record{{a}, {a}}, noOrder},
		{[][]api.Record{{d}, {rec(2, "a\xff", "")}}, 0},
		{[][]api.Record{{rec(2, "a\xff", "")}, {d}}, noOrder},
		{[][]api.Record{{rec(2, "\x7f", "")}, {rec(2, "\x80", "")}}, 0},
		{[][]api.Record{{rec(2, "a", "")}, {rec(2, "a\x00", "")}}, 0},
	} {
		what := fmt.Sprint(len(k.used), " pages: ", told(flat(k.used)))
		isCode(t, what, isAudited(t, what, imageOf(25, k.used...)), k.code)
	}
}

// P27.1: page 0 may tell any number of pages that a page's head can tell, and the disk has but one.
func TestToldPages(t *testing.T) {
	image := imageOf(22, recs(rec(1, "a", "x")))
	for pages := range 256 {
		code := noFormat
		switch {
		case pages == 5:
			code = 0
		case pages < 2 || pages > 250:
			code = badPlace // one used page is one too many, or there are no such disks
		}
		what := fmt.Sprintf("%d pages told", pages)
		isCode(t, what, isAudited(t, what, laid(image, wordsHome(5, 0), headOf(pages, 1, 1))), code)
	}
	what := "256 more than 5 pages told"
	isCode(t, what, isAudited(t, what, laid(image, wordsHome(5, 0), headOf(261, 1, 1))), badPlace)
}

// P27.1: page 0 may tell fewer used pages than hold records, or more.
func TestToldUsed(t *testing.T) {
	used := [][]api.Record{{rec(1, "a", "x")}, {rec(1, "b", "x"), rec(1, "c", "")}, {rec(5, "a", "x")}}
	image := imageOf(22, used...)
	for told, records := range []int{0, 1, 3, 4} {
		what := fmt.Sprintf("%d used pages told", told)
		isCode(t, what, isAudited(t, what, laid(image, wordsHome(5, 0), headOf(5, told, records))), 0)
		if told > 0 {
			isCode(t, what, isAudited(t, what, laid(image, wordsHome(5, 0), headOf(5, told, records-1))), noFormat)
			isCode(t, what, isAudited(t, what, laid(image, wordsHome(5, 0), headOf(5, told, records+1))), noFormat)
		}
	}
	isCode(t, "4 used pages told", isAudited(t, "4 used", laid(image, wordsHome(5, 0), headOf(5, 4, 4))), noMark)
	isCode(t, "5 used pages told", isAudited(t, "5 used", laid(image, wordsHome(5, 0), headOf(5, 5, 4))), badPlace)
}
