package page_test

import (
	"bytes"
	"fmt"
	"math/rand"
	"testing"

	"lethe/api"
	"lethe/page"
)

// handedIn: bytes for all calls: right pages, ones with each kind of fault, content of all kinds.
func handedIn(t *testing.T) [][]byte {
	r := rand.New(rand.NewSource(13))
	list := [][]byte{nil, {}, {0}, drawn(r, 2), drawn(r, 1007), drawn(r, 1008), drawn(r, 1009), zeros(1023), zeros(1024), zeros(1025)}
	for _, c := range bothKinds(t) {
		list = append(list, c.b)
		for _, at := range []int{0, 1, 3, 5, 7, 8, 14, 20, 1023} {
			b := joined(c.b)
			b[at] ^= 3
			list = append(list, b, resealed(b))
		}
	}
	return list
}

// answers: all calls of one list of bytes.
func answers(b []byte) [][]byte {
	laid, _ := page.Make(3, 4, b)
	_, content, _ := page.Open(b, 1)
	_, full, _ := page.Open(b, 249)
	_, _, _, _ = page.OpenHead(b)
	sum := page.Sum(b, b)
	return [][]byte{laid, content, full, four(sum)}
}

// P10.1: what is handed in is as it was, spare room too; and no answer hangs on it any more, nor it on the answer.
func TestHandedInStays(t *testing.T) {
	for i, given := range handedIn(t) {
		b := roomy(given)
		before := joined(whole(b))
		outs := answers(b)
		if !bytes.Equal(whole(b), before) {
			t.Fatalf("list %d, or what lies behind it, has changed", i)
		}
		var copies [][]byte
		for _, out := range outs {
			copies = append(copies, joined(out))
		}
		for k := range whole(b) {
			whole(b)[k] ^= 0xff
		}
		for k, out := range outs {
			if !bytes.Equal(out, copies[k]) {
				t.Errorf("list %d: answer %d sees what is written into what was handed in", i, k)
			}
		}
		written := joined(whole(b))
		for _, out := range outs {
			for k := range whole(out) {
				whole(out)[k] = 0xaa
			}
			_ = append(out, 1, 2, 3)
		}
		if !bytes.Equal(whole(b), written) {
			t.Errorf("list %d sees what is written into an answer", i)
		}
	}
}

// P10.1: two answers, of the same or of different calls, share no memory, spare room too.
func TestAnswersAreNew(t *testing.T) {
	for i, b := range handedIn(t) {
		head, _ := page.Head(10, 3, 7)
		headAgain, _ := page.Head(10, 3, 7)
		outs := append(append(answers(b), answers(b)...), head, headAgain)
		var copies [][]byte
		for _, out := range outs {
			copies = append(copies, joined(out))
		}
		for k, out := range outs {
			for n := range whole(out) {
				whole(out)[n] ^= 0x55
			}
			for other := k + 1; other < len(outs); other++ {
				if !bytes.Equal(outs[other], copies[other]) {
					t.Fatalf("list %d: answers %d and %d share memory", i, k, other)
				}
			}
		}
	}
}

// P10.1: what a call answers hangs on what it is given alone: the same again, whatever was called and written in between.
func TestSameAgain(t *testing.T) {
	list := handedIn(t)
	var first [][][]byte
	for _, b := range list {
		first = append(first, answers(b))
	}
	for range 2 {
		for i := len(list) - 1; i >= 0; i-- {
			again := answers(list[i])
			for k := range again {
				if !bytes.Equal(again[k], first[i][k]) {
					t.Fatalf("list %d: answer %d is another one the next time", i, k)
				}
			}
			for _, out := range again {
				clear(whole(out))
			}
		}
	}
}

// P10.1, P10.2: parts that lie in one array, over one another, in either order: nothing is written behind any of them, and the list of parts stays, its spare room too.
func TestSumOfOneArray(t *testing.T) {
	array := drawn(rand.New(rand.NewSource(14)), 300)
	before := joined(array)
	parts := make([][]byte, 0, 8)
	parts = append(parts, array[100:200], array[:100], array[50:150], nil, array[:0], array)
	behind := whole(parts)
	behind[6], behind[7] = array[7:9], array[1:5]
	want := wordsSum(joined(array[100:200], array[:100], array[50:150], array))
	isSum(t, "one array", page.Sum(parts...), want)
	isSum(t, "one array again", page.Sum(parts...), want)
	if !bytes.Equal(array, before) {
		t.Errorf("the array has changed")
	}
	for k, c := range [][2]int{{100, 200}, {0, 100}, {50, 150}, {0, 0}, {0, 0}, {0, 300}, {7, 9}, {1, 5}} {
		if !bytes.Equal(behind[k], before[c[0]:c[1]]) {
			t.Errorf("part %d of the list is another one", k)
		}
	}
}

// P10.1: Make of content that lies within a page, and Open of pages that lie in one array.
func TestPagesOfOneArray(t *testing.T) {
	one, two := recordsPlan(1, 1, []byte("one")).bytes(), recordsPlan(2, 1, []byte("two")).bytes()
	array := joined(one, two)
	isOpened(t, "the first", array[:1024], 1, 1, []byte("one"), api.OK)
	isOpened(t, "the second", array[1024:], 2, 1, []byte("two"), api.OK)
	isRefused(t, "both", array, 1, api.ErrSize)
	within, e := page.Make(3, 1, array[16:1024])
	isBytes(t, "Make of what is within a page", within, e, recordsPlan(3, 1, one[16:]).bytes(), api.OK)
	if !bytes.Equal(array, joined(one, two)) {
		t.Errorf("the array has changed")
	}
}

// P10.1: no call panics and each ends, whatever bytes and numbers it is given; with an error every other answer is 0 or of length 0.
func TestWrongThings(t *testing.T) {
	r := rand.New(rand.NewSource(15))
	numbers := append([]int{0, 1, 2, 249, 250, 65535, 65536}, farNumbers()...)
	for k := range 3000 {
		b := make([]byte, []int{0, 1, 15, 16, 24, 1023, 1024, 1025, r.Intn(3000)}[r.Intn(9)])
		r.Read(b)
		if len(b) > 1 {
			b[0], b[1] = 0xd6, byte(r.Intn(4))
		}
		if len(b) == 1024 && r.Intn(4) > 0 {
			b = resealed(b)
		}
		n := func() int { return numbers[r.Intn(len(numbers))] }
		what := fmt.Sprintf("draw %d", k)
		if laid, e := page.Make(n(), n(), b); (e == api.OK) != (len(laid) == 1024) || e != api.OK && len(laid) != 0 {
			t.Errorf("%s: Make: %d bytes, error %d", what, len(laid), e)
		}
		if head, e := page.Head(n(), n(), n()); (e == api.OK) != (len(head) == 1024) || e != api.OK && len(head) != 0 {
			t.Errorf("%s: Head: %d bytes, error %d", what, len(head), e)
		}
		asked := n()
		count, content, code := wordsOpen(b, asked)
		isOpened(t, what, b, asked, count, content, code)
		pages, used, records, code := wordsOpenHead(b)
		isHead(t, what, b, pages, used, records, code)
	}
}
