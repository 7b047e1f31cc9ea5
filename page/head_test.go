package page_test

import (
	"fmt"
	"math/rand"
	"testing"

	"lethe/api"
	"lethe/page"
)

// P10.5, P10.6: the chapter's examples, line by line.
func TestHeadExamples(t *testing.T) {
	b, e := page.Head(10, 3, 7)
	want := joined(unhex(t, "d60100000000000800000000239cbf63000a000300000007"), zeros(1000))
	isBytes(t, "Head(10, 3, 7)", b, e, want, api.OK)
	isHead(t, "Head(10, 3, 7)", want, 10, 3, 7, api.OK)
	for _, c := range [][3]int{{0, 0, 0}, {3, 3, 0}, {3, 0, 1}, {3, 1, 65536}} {
		b, e := page.Head(c[0], c[1], c[2])
		isBytes(t, fmt.Sprintf("Head%v", c), b, e, nil, api.ErrPlace)
	}
	b, e = page.Head(250, 249, 16318215)
	isBytes(t, "Head(250, 249, 16318215)", b, e, headPlan(250, 249, 249*65535).bytes(), api.OK)
	isHead(t, "Head(250, 249, 16318215)", b, 250, 249, 16318215, api.OK)
}

// headCode: P10.5's error, without a product.
func headCode(pages, used, records int) api.Errno {
	if pages < 1 || pages > 250 || used < 0 || used >= pages || records < 0 {
		return api.ErrPlace
	}
	for range used {
		records -= min(records, 65535)
	}
	if records > 0 {
		return api.ErrPlace
	}
	return api.OK
}

// recordEdges: numbers of records around the most that so many used pages hold, and far ones.
func recordEdges(used int) []int {
	most := 65535 * used
	return append([]int{0, 1, most - 65536, most - 65535, most - 1, most, most + 1, most + 65535, most + 65536}, farNumbers()...)
}

// P10.5: Head at all bounds of its three numbers, and far from them.
func TestHeadEdges(t *testing.T) {
	for _, pages := range append([]int{0, 1, 2, 3, 127, 248, 249, 250, 251, 252, 255, 256, 257, 506}, farNumbers()...) {
		for _, used := range append([]int{0, 1, 2, pages - 2, pages - 1, pages, pages + 1, 249, 250, 255, 256, 257}, farNumbers()...) {
			for _, records := range recordEdges(used) {
				code := headCode(pages, used, records)
				var want []byte
				if code == api.OK {
					want = headPlan(pages, used, uint32(records)).bytes()
				}
				b, e := page.Head(pages, used, records)
				isBytes(t, fmt.Sprintf("Head(%d, %d, %d)", pages, used, records), b, e, want, code)
			}
		}
	}
}

// P10.6: the three numbers at all bounds, and at all that their bytes can hold.
func TestOpenHeadNumbers(t *testing.T) {
	for _, pages := range []int{0, 1, 2, 3, 127, 249, 250, 251, 255, 256, 257, 506, 32768, 65535} {
		for _, used := range []int{0, 1, 2, max(pages, 2) - 2, max(pages, 1) - 1, pages, min(pages+1, 65535), 249, 250, 255, 256, 257, 32769, 65535} {
			for _, records := range []int{0, 1, 65535*used - 1, 65535 * used, 65535*used + 1, 65536 * used, 1 << 24, 1 << 31, 1<<31 + 1, 1<<32 - 1} {
				if records < 0 || records > 1<<32-1 {
					continue
				}
				what := fmt.Sprintf("%d, %d, %d", pages, used, records)
				b := headPlan(pages, used, uint32(records)).bytes()
				if code := headCode(pages, used, records); code != api.OK {
					isNoHead(t, what, b, code)
				} else {
					isHead(t, what, b, pages, used, records, api.OK)
				}
			}
		}
	}
}

// P10.6: every length of b but the right one.
func TestOpenHeadSizes(t *testing.T) {
	long := joined(headPlan(10, 3, 7).bytes(), zeros(2000))
	isNoHead(t, "nil", nil, api.ErrSize)
	for _, n := range []int{0, 1, 2, 12, 16, 23, 24, 25, 512, 1023, 1025, 2048, 3024} {
		isNoHead(t, fmt.Sprintf("a first page's first %d bytes", n), long[:n], api.ErrSize)
		isNoHead(t, fmt.Sprintf("%d zeros", n), zeros(n), api.ErrSize)
	}
	isHead(t, "1024 bytes", long[:1024], 10, 3, 7, api.OK)
}

// P10.6: every other mark and every other kind, and each bit of the checksum.
func TestOpenHeadMarksKindsAndSums(t *testing.T) {
	for n := range 256 {
		p := headPlan(10, 3, 7)
		p.mark = n
		if n != 0xd6 {
			isNoHead(t, fmt.Sprintf("mark %02x", n), p.bytes(), api.ErrMark)
		}
		p = headPlan(10, 3, 7)
		p.kind = n
		if n != 1 {
			isNoHead(t, fmt.Sprintf("kind %02x", n), p.bytes(), api.ErrKind)
		}
	}
	for k := range 32 {
		p := headPlan(10, 3, 7)
		p.sum = 1 << k
		isNoHead(t, fmt.Sprintf("bit %d of the checksum", k), p.bytes(), api.ErrSum)
	}
}

// P10.6: each bit of each byte, with a checksum that fits it: what must be zero, the length, the numbers.
func TestOpenHeadEachBit(t *testing.T) {
	good := headPlan(10, 3, 7).bytes()
	for at := range 1024 {
		if at >= 12 && at < 16 {
			continue
		}
		for k := range 8 {
			b := joined(good)
			b[at] ^= 1 << k
			b = resealed(b)
			pages, used, records, code := wordsOpenHead(b)
			switch {
			case at == 0 && code != api.ErrMark, at == 1 && code != api.ErrKind,
				(at >= 2 && at <= 5 || at >= 8 && at <= 11 || at >= 24) && code != api.ErrSlack,
				(at == 6 || at == 7) && code != api.ErrSize:
				t.Fatalf("byte %d, bit %d: the model tells %d", at, k, code)
			}
			isHead(t, fmt.Sprintf("byte %d, bit %d", at, k), b, pages, used, records, code)
		}
	}
}

// P10.6: every length but 8.
func TestOpenHeadLengths(t *testing.T) {
	for _, length := range []int{0, 1, 7, 9, 16, 24, 255, 256, 264, 1008, 1009, 2048, 2056, 32776, 65535} {
		p := headPlan(10, 3, 7)
		p.length = length
		isNoHead(t, fmt.Sprintf("length %d", length), p.bytes(), api.ErrSize)
	}
}

// P10.6: each single fault, each pair and each greater set of them, with a checksum that fits it: the first in the chapter's order is told.
func TestOpenHeadFaultsInOrder(t *testing.T) {
	good := headPlan(10, 3, 7)
	for _, size := range []int{-1, 1} {
		for _, numbers := range [][3]int{{0, 0, 0}, {251, 3, 7}, {10, 10, 7}, {10, 3, 3*65535 + 1}} {
			faults := []fault{
				{"size", func(p *plan) { p.size = size }, api.ErrSize},
				{"mark", func(p *plan) { p.mark = 0x6d }, api.ErrMark},
				{"kind", func(p *plan) { p.kind = 2 }, api.ErrKind},
				{"sum", func(p *plan) { p.sum = 1 }, api.ErrSum},
				{"number", func(p *plan) { p.number = 1 }, api.ErrSlack},
				{"count", func(p *plan) { p.count = 256 }, api.ErrSlack},
				{"slack", func(p *plan) { p.slack = 1 << 31 }, api.ErrSlack},
				{"behind", func(p *plan) { p.rest = joined(p.rest, zeros(999), []byte{1}) }, api.ErrSlack},
				{"length", func(p *plan) { p.length = 1008 }, api.ErrSize},
				{"numbers", func(p *plan) { p.rest = headPlan(numbers[0], numbers[1], uint32(numbers[2])).rest }, api.ErrPlace},
			}
			inAllSets(good, faults, func(what string, p plan, code api.Errno) {
				if code != api.OK {
					isNoHead(t, what, p.bytes(), code)
				} else {
					isHead(t, what, p.bytes(), 10, 3, 7, api.OK)
				}
			})
		}
	}
}

// P10.6: first pages whose fields were drawn, held against the chapter's words.
func TestOpenHeadDrawn(t *testing.T) {
	r := rand.New(rand.NewSource(7))
	seen := map[api.Errno]int{}
	for k := range 8000 {
		b := headPlan(r.Intn(6), r.Intn(3), uint32(r.Intn(140000))).bytes()
		for range r.Intn(3) {
			b[[]int{0, 1, 2, 3, 4, 5, 6, 7, 8, 11, 12, 15, 16, 17, 18, 19, 20, 21, 23, 24, 25, 1023}[r.Intn(22)]] = byte(r.Intn(4))
		}
		if r.Intn(8) > 0 {
			b = resealed(b)
		}
		pages, used, records, code := wordsOpenHead(b)
		seen[code]++
		isHead(t, fmt.Sprintf("draw %d", k), b, pages, used, records, code)
	}
	for _, code := range []api.Errno{api.OK, api.ErrMark, api.ErrKind, api.ErrSum, api.ErrSlack, api.ErrSize, api.ErrPlace} {
		if seen[code] == 0 {
			t.Errorf("no draw has error %d: %v", code, seen)
		}
	}
}
