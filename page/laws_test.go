package page_test

import (
	"fmt"
	"math/rand"
	"testing"

	"lethe/api"
	"lethe/page"
)

// somePages: pages of records at the edges of number, count and length, and drawn ones.
func somePages() []plan {
	r := rand.New(rand.NewSource(8))
	var list []plan
	for _, number := range []int{1, 2, 249} {
		for _, count := range []int{1, 256, 65535} {
			for _, length := range []int{1, 8, 1007, 1008} {
				list = append(list, recordsPlan(number, count, drawn(r, length)), recordsPlan(number, count, zeros(length)))
			}
		}
	}
	for range 200 {
		list = append(list, recordsPlan(1+r.Intn(249), 1+r.Intn(65535), drawn(r, 1+r.Intn(1008))))
	}
	return list
}

// someHeads: first pages at the edges of their numbers, and drawn ones.
func someHeads() [][3]int {
	list := [][3]int{{1, 0, 0}, {2, 0, 0}, {2, 1, 0}, {2, 1, 1}, {2, 1, 65535}, {3, 2, 65536}, {250, 0, 0}, {250, 249, 0}, {250, 249, 249 * 65535}}
	r := rand.New(rand.NewSource(9))
	for range 200 {
		pages := 1 + r.Intn(250)
		used := r.Intn(pages)
		list = append(list, [3]int{pages, used, r.Intn(65535*used + 1)})
	}
	return list
}

// P10.7: Open of what Make answers gives count and content back, and OpenHead takes none of them.
func TestMadeIsOpened(t *testing.T) {
	for _, p := range somePages() {
		what := fmt.Sprintf("Make(%d, %d, %d bytes)", p.number, p.count, p.length)
		b := made(t, p.number, p.count, p.rest)
		isOpened(t, what, b, p.number, p.count, p.rest, api.OK)
		isNoHead(t, what, b, api.ErrKind)
	}
}

// P10.7: Make of what Open answers is the page, byte for byte.
func TestOpenedIsMade(t *testing.T) {
	for _, p := range somePages() {
		what := fmt.Sprintf("page %d, count %d, %d bytes", p.number, p.count, p.length)
		count, content, e := page.Open(p.bytes(), p.number)
		if e != api.OK {
			t.Fatalf("%s: Open: error %d", what, e)
		}
		b, e := page.Make(p.number, count, content)
		isBytes(t, what, b, e, p.bytes(), api.OK)
	}
}

// P10.7: Head and OpenHead, there and back and there again; Open takes none of them, whatever number is asked for.
func TestHeadThereAndBack(t *testing.T) {
	for _, c := range someHeads() {
		what := fmt.Sprintf("Head%v", c)
		b := madeHead(t, c[0], c[1], c[2])
		isHead(t, what, b, c[0], c[1], c[2], api.OK)
		pages, used, records, _ := page.OpenHead(headPlan(c[0], c[1], uint32(c[2])).bytes())
		again, e := page.Head(pages, used, records)
		isBytes(t, what, again, e, b, api.OK)
		for _, asked := range []int{-1, 0, 1, 8, 250} {
			isRefused(t, what, b, asked, api.ErrKind)
		}
	}
}

// P10.7: no page is taken by both calls, and each that is taken is the one form of what it holds: drawn pages of both kinds, with some bytes changed and a checksum that fits.
func TestOneForm(t *testing.T) {
	r := rand.New(rand.NewSource(10))
	takenAs := [2]int{}
	for k := range 8000 {
		p := recordsPlan(1, 1+r.Intn(2), drawn(r, 1+r.Intn(3)))
		if k%2 == 0 {
			p = headPlan(1+r.Intn(3), r.Intn(2), uint32(r.Intn(70000)))
		}
		b := p.bytes()
		for range r.Intn(4) {
			b[r.Intn(26)] = byte(r.Intn(4))
		}
		b[0] = 0xd6
		b = resealed(b)
		count, content, e := page.Open(b, 1)
		pages, used, records, headE := page.OpenHead(b)
		if e == api.OK && headE == api.OK {
			t.Fatalf("draw %d: taken by both: %x", k, b[:24])
		}
		if e == api.OK {
			takenAs[0]++
			again, e := page.Make(1, count, content)
			isBytes(t, fmt.Sprintf("draw %d", k), again, e, b, api.OK)
		}
		if headE == api.OK {
			takenAs[1]++
			again, e := page.Head(pages, used, records)
			isBytes(t, fmt.Sprintf("draw %d", k), again, e, b, api.OK)
		}
	}
	if takenAs[0] < 100 || takenAs[1] < 100 {
		t.Errorf("too few pages were taken: %v", takenAs)
	}
}

// bothKinds: right pages of both kinds, short and full ones, with the number by which Open is asked for them.
func bothKinds(t *testing.T) []struct {
	what  string
	b     []byte
	asked int
} {
	r := rand.New(rand.NewSource(11))
	return []struct {
		what  string
		b     []byte
		asked int
	}{
		{"a short page", made(t, 1, 1, []byte("ab")), 1},
		{"a full page", made(t, 249, 65535, drawn(r, 1008)), 249},
		{"a first page", madeHead(t, 10, 3, 7), 0},
		{"the greatest first page", madeHead(t, 250, 249, 249*65535), 1},
	}
}

// isSpoilt: neither call takes it.
func isSpoilt(t *testing.T, what string, b []byte, asked int) {
	t.Helper()
	if count, content, e := page.Open(b, asked); e == api.OK || count != 0 || len(content) != 0 {
		t.Fatalf("%s: Open: %d, %d bytes, error %d", what, count, len(content), e)
	}
	if pages, used, records, e := page.OpenHead(b); e == api.OK || pages != 0 || used != 0 || records != 0 {
		t.Fatalf("%s: OpenHead: %d, %d, %d, error %d", what, pages, used, records, e)
	}
}

// P10.8: each single bit turned, those of the checksum too. The page of another number is asked for by that one.
func TestEachBitTurned(t *testing.T) {
	for _, c := range bothKinds(t) {
		for bit := range 8 * 1024 {
			b := joined(c.b)
			b[bit/8] ^= 1 << (bit % 8)
			isSpoilt(t, fmt.Sprintf("%s, bit %d", c.what, bit), b, c.asked)
			isSpoilt(t, fmt.Sprintf("%s, bit %d, asked for by what stands there", c.what, bit), b, number(b[2:4]))
		}
	}
}

// turn: b with the bits of a run changed, counted byte by byte and in each from the lowest on; false, if the run touches the checksum or the page's end.
func turn(b []byte, from int, bits uint32) ([]byte, bool) {
	out := joined(b)
	for k := range 32 {
		at := (from + k) / 8
		if bits>>k&1 == 0 {
			continue
		}
		if at >= 1024 || at >= 12 && at < 16 {
			return nil, false
		}
		out[at] ^= 1 << ((from + k) % 8)
	}
	return out, true
}

// P10.8: runs of 2 to 32 bits at every place outside of bytes 12 to 15, changed in drawn ways, and wholly.
func TestRunsTurned(t *testing.T) {
	r := rand.New(rand.NewSource(12))
	for _, c := range bothKinds(t) {
		tried := 0
		for from := range 8 * 1024 {
			for _, bits := range []uint32{3, 1<<31 | 1, 0xffffffff, r.Uint32() | 1, r.Uint32()>>r.Intn(31) | 1} {
				b, ok := turn(c.b, from, bits)
				if !ok {
					continue
				}
				tried++
				isSpoilt(t, fmt.Sprintf("%s, bits %08x from %d on", c.what, bits, from), b, c.asked)
			}
		}
		if tried < 5*8*900 {
			t.Errorf("%s: only %d runs were tried", c.what, tried)
		}
	}
}

// P10.8: every change of the two bytes of each number in the head, and of kind and number together.
func TestHeadBytesTurned(t *testing.T) {
	for _, c := range bothKinds(t) {
		for _, at := range []int{1, 2, 4, 6, 18} {
			for bits := 1; bits < 1<<16; bits += 11 {
				b, _ := turn(c.b, 8*at, uint32(bits))
				isSpoilt(t, fmt.Sprintf("%s, bits %04x from byte %d on", c.what, bits, at), b, c.asked)
			}
		}
	}
}

// P10.9: a page of zeros, whatever number is asked for.
func TestZerosAreNoPage(t *testing.T) {
	for _, asked := range append([]int{0, 1, 249, 250}, farNumbers()...) {
		isRefused(t, fmt.Sprintf("zeros, asked for as %d", asked), zeros(1024), asked, api.ErrMark)
	}
	isNoHead(t, "zeros", zeros(1024), api.ErrMark)
	isNoHead(t, "zeros with a checksum that fits", resealed(zeros(1024)), api.ErrMark)
}
