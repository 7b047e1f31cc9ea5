package page_test

import (
	"fmt"
	"math/rand"
	"testing"

	"lethe/api"
	"lethe/page"
)

// P10.3, P10.4: the chapter's examples, line by line.
func TestPageExamples(t *testing.T) {
	b, e := page.Make(1, 1, []byte("ab"))
	want := joined(unhex(t, "d60200010001000200000000b0d0592a6162"), zeros(1006))
	isBytes(t, "Make(1, 1, ab)", b, e, want, api.OK)
	for _, c := range [][2]int{{0, 1}, {250, 1}, {1, 0}, {1, 65536}} {
		b, e := page.Make(c[0], c[1], []byte("a"))
		isBytes(t, fmt.Sprintf("Make%v of a", c), b, e, nil, api.ErrPlace)
	}
	none, e := page.Make(1, 1, []byte(""))
	isBytes(t, "Make of no byte", none, e, nil, api.ErrEmpty)
	none, e = page.Make(1, 1, zeros(1009))
	isBytes(t, "Make of 1009 bytes", none, e, nil, api.ErrLong)
	isRefused(t, "another number", want, 2, api.ErrPage)
	isRefused(t, "a first page", madeHead(t, 10, 3, 7), 0, api.ErrKind)
	isRefused(t, "1023 bytes", zeros(1023), 1, api.ErrSize)
	isRefused(t, "1024 zero bytes", zeros(1024), 1, api.ErrMark)
}

// makeCode: P10.3's error.
func makeCode(number, count, length int) api.Errno {
	switch {
	case number < 1 || number > 249 || count < 1 || count > 65535:
		return api.ErrPlace
	case length == 0:
		return api.ErrEmpty
	case length > 1008:
		return api.ErrLong
	}
	return api.OK
}

// P10.3: every number, count and length at its edges and far from them, with each other, so that the order of the errors is seen; what is taken is the page of the chapter's table.
func TestMakeEdges(t *testing.T) {
	r := rand.New(rand.NewSource(3))
	numbers := append([]int{0, 1, 2, 249, 250, 251, 255, 256, 257}, farNumbers()...)
	counts := append([]int{0, 1, 2, 255, 256, 257, 65534, 65535, 65536}, farNumbers()...)
	for _, length := range []int{0, 1, 2, 255, 256, 1007, 1008, 1009, 1024, 65536, 65537} {
		content := drawn(r, length)
		for _, number := range numbers {
			for _, count := range counts {
				code := makeCode(number, count, length)
				var want []byte
				if code == api.OK {
					want = recordsPlan(number, count, content).bytes()
				}
				b, e := page.Make(number, count, content)
				isBytes(t, fmt.Sprintf("Make(%d, %d, %d bytes)", number, count, length), b, e, want, code)
			}
		}
	}
}

// P10.3: all numbers and all lengths that are taken, and content of zeros, which is content all the same.
func TestMakeTakes(t *testing.T) {
	r := rand.New(rand.NewSource(4))
	for number := 1; number <= 249; number++ {
		count, content := 1+r.Intn(65535), drawn(r, 1+r.Intn(1008))
		b, e := page.Make(number, count, content)
		isBytes(t, fmt.Sprintf("number %d", number), b, e, recordsPlan(number, count, content).bytes(), api.OK)
	}
	for length := 1; length <= 1008; length++ {
		b, e := page.Make(7, 9, zeros(length))
		isBytes(t, fmt.Sprintf("%d zeros", length), b, e, recordsPlan(7, 9, zeros(length)).bytes(), api.OK)
		isOpened(t, fmt.Sprintf("%d zeros", length), b, 7, 9, zeros(length), api.OK)
	}
}

// P10.3, P10.4: nil is a list without bytes.
func TestMakeOfNil(t *testing.T) {
	b, e := page.Make(1, 1, nil)
	isBytes(t, "Make of nil", b, e, nil, api.ErrEmpty)
	isRefused(t, "nil", nil, 1, api.ErrSize)
}

// P10.4: every length of b but the right one, whatever stands in it.
func TestOpenSizes(t *testing.T) {
	b := recordsPlan(1, 1, []byte("ab")).bytes()
	long := joined(b, zeros(2000))
	for _, n := range []int{0, 1, 2, 12, 15, 16, 17, 512, 1022, 1023, 1025, 1026, 2048, 3024} {
		isRefused(t, fmt.Sprintf("a page's first %d bytes", n), long[:n], 1, api.ErrSize)
		isRefused(t, fmt.Sprintf("%d zeros", n), zeros(n), 1, api.ErrSize)
	}
	isOpened(t, "1024 bytes", long[:1024], 1, 1, []byte("ab"), api.OK)
}

// P10.4: every other mark and every other kind.
func TestOpenMarksAndKinds(t *testing.T) {
	for n := range 256 {
		p := recordsPlan(1, 1, []byte("ab"))
		p.mark = n
		if n != 0xd6 {
			isRefused(t, fmt.Sprintf("mark %02x", n), p.bytes(), 1, api.ErrMark)
		}
		p = recordsPlan(1, 1, []byte("ab"))
		p.kind = n
		if n != 2 {
			isRefused(t, fmt.Sprintf("kind %02x", n), p.bytes(), 1, api.ErrKind)
		}
	}
}

// P10.4: each single bit of the checksum, and checksums that were taken otherwise.
func TestOpenSums(t *testing.T) {
	right := recordsPlan(1, 1, []byte("ab"))
	for k := range 32 {
		p := right
		p.sum = 1 << k
		isRefused(t, fmt.Sprintf("bit %d of the checksum", k), p.bytes(), 1, api.ErrSum)
	}
	good := right.bytes()
	s := good[12:16]
	for what, sum := range map[string][]byte{
		"backwards":          {s[3], s[2], s[1], s[0]},
		"not turned":         {^s[0], ^s[1], ^s[2], ^s[3]},
		"zero":               zeros(4),
		"without its bytes":  four(wordsSum(joined(good[:12], good[16:]))),
		"of the head alone":  four(wordsSum(joined(good[:12], zeros(4)))),
		"of what is behind":  four(wordsSum(good[16:])),
		"up to the content":  four(wordsSum(joined(good[:12], zeros(4), good[16:18]))),
		"with its own bytes": four(wordsSum(good)),
	} {
		isRefused(t, what, joined(good[:12], sum, good[16:]), 1, api.ErrSum)
	}
}

// P10.4: the number that stands there against the one that is asked for: both at their edges, and asked ones that would be the same in their lowest bits.
func TestOpenNumbers(t *testing.T) {
	stands := []int{0, 1, 2, 128, 248, 249, 250, 251, 255, 256, 257, 505, 65535}
	for _, number := range stands {
		b := recordsPlan(number, 5, []byte("content")).bytes()
		for _, asked := range append(stands, farNumbers()...) {
			code := api.OK
			switch {
			case asked != number:
				code = api.ErrPage
			case number < 1 || number > 249:
				code = api.ErrPlace
			}
			isOpened(t, fmt.Sprintf("page %d asked for as %d", number, asked), b, asked, 5, []byte("content"), code)
		}
	}
}

// P10.4: every number that may stand there, asked for.
func TestOpenAllNumbers(t *testing.T) {
	for number := range 300 {
		code := api.OK
		if number < 1 || number > 249 {
			code = api.ErrPlace
		}
		isOpened(t, fmt.Sprintf("page %d", number), recordsPlan(number, 1, []byte("x")).bytes(), number, 1, []byte("x"), code)
	}
}

// P10.4: the count at its edges.
func TestOpenCounts(t *testing.T) {
	for _, count := range []int{1, 2, 255, 256, 257, 65280, 65534, 65535} {
		isOpened(t, fmt.Sprintf("count %d", count), recordsPlan(1, count, []byte("x")).bytes(), 1, count, []byte("x"), api.OK)
	}
	isRefused(t, "count 0", recordsPlan(1, 0, []byte("x")).bytes(), 1, api.ErrPlace)
}

// P10.4: each bit of bytes 8 to 11.
func TestOpenSlack(t *testing.T) {
	for k := range 32 {
		p := recordsPlan(1, 1, []byte("ab"))
		p.slack = 1 << k
		isRefused(t, fmt.Sprintf("bit %d of the slack", k), p.bytes(), 1, api.ErrSlack)
	}
}

// P10.4: every length that may stand there, with 1008 bytes that are not zero behind the head, and with zeros.
func TestOpenLengths(t *testing.T) {
	content := drawn(rand.New(rand.NewSource(5)), 1008)
	for _, length := range []int{0, 1, 2, 255, 256, 257, 1000, 1007, 1008, 1009, 1010, 1023, 1024, 1025, 2032, 32768, 65535} {
		p := recordsPlan(1, 1, content)
		p.length = length
		code := api.ErrSlack
		switch {
		case length == 0:
			code = api.ErrEmpty
		case length > 1008:
			code = api.ErrLong
		case length == 1008:
			code = api.OK
		}
		isOpened(t, fmt.Sprintf("length %d", length), p.bytes(), 1, 1, content, code)
		p.rest = nil
		if code == api.ErrSlack {
			code = api.OK
		}
		isOpened(t, fmt.Sprintf("length %d of zeros", length), p.bytes(), 1, 1, zeros(min(length, 1008)), code)
	}
}

// P10.4: each byte behind the content.
func TestOpenTail(t *testing.T) {
	for _, length := range []int{1, 2, 500, 1006, 1007} {
		for at := range 1008 {
			p := recordsPlan(1, 1, zeros(length))
			p.rest = zeros(1008)
			p.rest[at] = 0x80
			code := api.OK
			if at >= length {
				code = api.ErrSlack
			}
			isOpened(t, fmt.Sprintf("length %d, byte %d behind the head", length, at), p.bytes(), 1, 1, p.rest[:length], code)
		}
	}
}

// openFaults: P10.4's, in its order. (The two of the length can't be in one page: see openLongFaults.)
func openFaults() []fault {
	return []fault{
		{"a byte short", func(p *plan) { p.size = -1 }, api.ErrSize},
		{"mark", func(p *plan) { p.mark = 0xd7 }, api.ErrMark},
		{"kind", func(p *plan) { p.kind = 1 }, api.ErrKind},
		{"sum", func(p *plan) { p.sum = 1 << 20 }, api.ErrSum},
		{"asked for", func(p *plan) { p.asked = 9 }, api.ErrPage},
		{"number 0", func(p *plan) { p.number, p.asked = 0, 0 }, api.ErrPlace},
		{"count 0", func(p *plan) { p.count = 0 }, api.ErrPlace},
		{"slack", func(p *plan) { p.slack = 1 }, api.ErrSlack},
		{"length 0", func(p *plan) { p.length = 0 }, api.ErrEmpty},
		{"a byte behind", func(p *plan) { p.rest = []byte("abc\x00\x01") }, api.ErrSlack},
	}
}

func openLongFaults() []fault {
	faults := openFaults()
	faults[0] = fault{"a byte more", func(p *plan) { p.size = 1 }, api.ErrSize}
	faults[2] = fault{"kind", func(p *plan) { p.kind = 0 }, api.ErrKind}
	faults[5] = fault{"number 250", func(p *plan) { p.number, p.asked = 250, 250 }, api.ErrPlace}
	faults[8] = fault{"length 1009", func(p *plan) { p.length = 1009 }, api.ErrLong}
	return faults
}

// P10.4: each single fault, each pair and each greater set of them, with a checksum that fits it: the first in the chapter's order is told.
func TestOpenFaultsInOrder(t *testing.T) {
	good := recordsPlan(1, 1, []byte("abc"))
	for _, faults := range [][]fault{openFaults(), openLongFaults()} {
		inAllSets(good, faults, func(what string, p plan, code api.Errno) {
			isOpened(t, what, p.bytes(), p.asked, 1, []byte("abc"), code)
		})
	}
}

// P10.4: pages whose fields were drawn, held against the chapter's words.
func TestOpenDrawn(t *testing.T) {
	r := rand.New(rand.NewSource(6))
	seen := map[api.Errno]int{}
	for k := range 8000 {
		b := recordsPlan(r.Intn(3), r.Intn(3), drawn(r, r.Intn(4))).bytes()
		for range r.Intn(3) {
			b[[]int{0, 1, 2, 3, 4, 5, 6, 7, 8, 11, 12, 15, 16, 17, 18, 19, 20, 1023}[r.Intn(18)]] = byte(r.Intn(6))
		}
		if r.Intn(8) > 0 {
			b = resealed(b)
		}
		asked := r.Intn(3)
		count, content, code := wordsOpen(b, asked)
		seen[code]++
		isOpened(t, fmt.Sprintf("draw %d", k), b, asked, count, content, code)
	}
	for _, code := range []api.Errno{api.OK, api.ErrMark, api.ErrKind, api.ErrSum, api.ErrPage, api.ErrPlace, api.ErrSlack, api.ErrEmpty, api.ErrLong} {
		if seen[code] == 0 {
			t.Errorf("no draw has error %d: %v", code, seen)
		}
	}
}
