package skips_test

import (
	"fmt"
	"testing"

	"lethe/api"
)

// P15.4: the keys come under the places from first on, in their order, of one turn alone.
func TestAdd(t *testing.T) {
	for _, turn := range []uint32{0, 1, 7, 1 << 31, last} {
		for _, first := range []uint32{0, 1, 255, 1<<31 - 2, 1 << 31, last - 4} {
			s, w := made(t, 256)
			isAdded(t, "five", s, w, turn, first, keys(10, 5)...)
			isSame(t, "five", s, w)
			isAdded(t, "the same numbers of the next turn", s, w, turn+1, first, keys(20, 5)...)
			isSame(t, "ten", s, w)
		}
	}
}

// P15.4: runs that end at the last number, and ones that would end beyond it, by one or by many.
func TestAddAtTheEnd(t *testing.T) {
	for count := 1; count <= 256; count++ {
		first := uint32(last - count + 1)
		s, w := made(t, 256)
		isAdded(t, "up to the last number", s, w, 4, first, keys(0, count)...)
		isSame(t, "up to the last number", s, w)
		s, w = made(t, 256)
		if count < 256 {
			isRefused(t, "one beyond", s, w, api.ErrCounter, 4, first, keys(0, count+1)...)
		}
		isRefused(t, "many beyond", s, w, api.ErrCounter, 4, first, keys(0, count+500)...)
	}
}

// P15.4: no keys: OK, whatever the places and the table are.
func TestAddNothing(t *testing.T) {
	for _, most := range []int{0, 1, 2} {
		s, w := made(t, most, rising(1, last, min(most, 1))...)
		for _, first := range []uint32{0, 1, last - 1, last} {
			for _, turn := range []uint32{0, 1, last} {
				isAdded(t, "no keys", s, w, turn, first)
				isAdded(t, "a list without keys", s, w, turn, first, []api.Key{}...)
				isSame(t, "no keys", s, w)
			}
		}
	}
}

// P15.4: a place that is taken, at each place of the keys: whether the same key lies there or another one.
func TestAddTwice(t *testing.T) {
	const count = 6
	for at := range uint32(count) {
		s, w := made(t, 256, skipped(3, 100+at, key(int(at))))
		isRefused(t, fmt.Sprintf("number %d of the keys", at), s, w, api.ErrTwice, 3, 100, keys(0, count)...)
		isRefused(t, fmt.Sprintf("number %d of other keys", at), s, w, api.ErrTwice, 3, 100, keys(40, count)...)
		isRefused(t, "the place alone", s, w, api.ErrTwice, 3, 100+at, key(int(at)))
		isAdded(t, "the places ahead", s, w, 3, 100, keys(0, int(at))...)
		isAdded(t, "the places behind", s, w, 3, 101+at, keys(50, count)...)
		isSame(t, "on both sides", s, w)
	}
}

// P15.4: each set of the three faults: the one that is named first is told, and nothing has come in.
func TestAddFaultsTogether(t *testing.T) {
	for faults := range 8 {
		counter, twice, full := faults&1 > 0, faults&2 > 0, faults&4 > 0
		s, w := made(t, 4, skipped(9, 0, key(1)), skipped(9, 1, key(2)))
		first, count, want := uint32(last-1), 2, api.OK
		if full {
			first, count, want = last-2, 3, api.ErrSkips
		}
		if twice {
			s, w = made(t, 4, skipped(9, 0, key(1)), skipped(8, last, key(2)))
			want = api.ErrTwice
		}
		if counter {
			first, want = first+1, api.ErrCounter
		}
		what := fmt.Sprintf("ErrCounter %v, ErrTwice %v, ErrSkips %v", counter, twice, full)
		if want == api.OK {
			isAdded(t, what, s, w, 8, first, keys(5, count)...)
			isSame(t, what, s, w)
			continue
		}
		isRefused(t, what, s, w, want, 8, first, keys(5, count)...)
	}
}

// P15.4: numbers that wrapped round would meet taken places, or come under the next turn: ErrCounter, and neither.
func TestAddDoesNotWrap(t *testing.T) {
	s, w := made(t, 9, skipped(2, 0, key(1)), skipped(3, 0, key(2)))
	isRefused(t, "0 of the turn is taken", s, w, api.ErrCounter, 2, last, keys(5, 2)...)
	isRefused(t, "0 of the turn is free", s, w, api.ErrCounter, 7, last, keys(5, 2)...)
	isRefused(t, "very many", s, w, api.ErrCounter, 7, last-(1<<16)+2, keys(5, 1<<16)...)
	isRefused(t, "very many, and none beyond", s, w, api.ErrSkips, 7, last-(1<<16)+1, keys(5, 1<<16)...)
}

// P15.4: all come in, or none: as many as there is room for are not taken of those that are too many.
func TestAddAllOrNone(t *testing.T) {
	for held := 0; held <= 5; held++ {
		for count := range 9 {
			s, w := made(t, 5, rising(0, 50, held)...)
			if held+count > 5 && count > 0 {
				isRefused(t, fmt.Sprintf("%d and %d", held, count), s, w, api.ErrSkips, 1, 0, keys(9, count)...)
			} else {
				isAdded(t, fmt.Sprintf("%d and %d", held, count), s, w, 1, 0, keys(9, count)...)
				isSame(t, fmt.Sprintf("%d and %d", held, count), s, w)
			}
			hasBound(t, fmt.Sprintf("%d and %d", held, count), s, w)
		}
	}
}
