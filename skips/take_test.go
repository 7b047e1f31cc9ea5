package skips_test

import (
	"fmt"
	"slices"
	"testing"

	"lethe/api"
)

// orders: all orders of the numbers below n.
func orders(n int) [][]int {
	if n == 0 {
		return [][]int{nil}
	}
	var all [][]int
	for _, o := range orders(n - 1) {
		for at := 0; at <= len(o); at++ {
			all = append(all, slices.Insert(slices.Clone(o), at, n-1))
		}
	}
	return all
}

// fiveKeys: places that share a turn, a number, or neither, at both ends, and a key of zeros.
func fiveKeys() []api.Skipped {
	return []api.Skipped{skipped(0, 0, key(1)), skipped(0, last, key(2)), skipped(1, 0, api.Key{}), skipped(last, 0, key(4)), skipped(last, last, key(1))}
}

// P15.5: in whatever order keys are taken, each is there till it is taken, and gone then; the others stay.
func TestTakeInAllOrders(t *testing.T) {
	list := fiveKeys()
	for _, order := range orders(len(list)) {
		s, w := made(t, len(list), list...)
		for _, i := range order {
			isFound(t, "ahead", s, w, list[i].Turn, list[i].N)
			isTaken(t, "there", s, w, list[i].Turn, list[i].N)
			isSame(t, fmt.Sprintf("%v, behind %d", order, i), s, w)
			isTaken(t, "again", s, w, list[i].Turn, list[i].N)
			isFound(t, "gone", s, w, list[i].Turn, list[i].N)
		}
		if s.Len() != 0 || len(s.List()) != 0 {
			t.Errorf("P15.6: %v: %d keys are left", order, s.Len())
		}
	}
}

// P15.5: no key under the place: beside those that there are, with turn and number changed over, and in a table that holds none.
func TestNoKey(t *testing.T) {
	s, w := made(t, 9, skipped(3, 5, key(1)), skipped(3, 6, key(2)))
	none, nw := made(t, 0)
	for _, p := range [][2]uint32{{5, 3}, {3, 4}, {3, 7}, {2, 5}, {4, 5}, {0, 0}, {last, last}, {3, 5 + 1<<31}, {3 + 1<<31, 5}, {0, 3}} {
		if k, e := s.Find(p[0], p[1]); k != (api.Key{}) || e != api.ErrNoKey {
			t.Errorf("P15.5: Find(%d, %d): error %d, %x", p[0], p[1], e, k)
		}
		if k, e := s.Take(p[0], p[1]); k != (api.Key{}) || e != api.ErrNoKey {
			t.Errorf("P15.5: Take(%d, %d): error %d, %x", p[0], p[1], e, k)
		}
		isSame(t, "nothing was taken", s, w)
		isTaken(t, "an empty one", none, nw, p[0], p[1])
		isSame(t, "an empty one", none, nw)
	}
}

// P15.5: to find a key changes nothing, however often.
func TestFindChangesNothing(t *testing.T) {
	s, w := made(t, 5, fiveKeys()...)
	for range 20 {
		for _, x := range fiveKeys() {
			isFound(t, "again and again", s, w, x.Turn, x.N)
		}
	}
	isSame(t, "found", s, w)
	hasBound(t, "found", s, w)
}

// P15.5, P15.4: what was taken leaves its room and its place: another key may come there.
func TestTakeLeavesRoom(t *testing.T) {
	s, w := made(t, 3, rising(1, 0, 3)...)
	for n := range 500 {
		at := uint32(n % 3)
		isRefused(t, "full", s, w, api.ErrSkips, 2, 0, key(9))
		isTaken(t, "one", s, w, 1, at)
		hasBound(t, "behind Take", s, w)
		isAdded(t, "at its place", s, w, 1, at, key(n))
	}
	isSame(t, "at the end", s, w)
}

// P15.6: the list is sorted, in whatever order the keys came, and each time anew.
func TestListInAllOrders(t *testing.T) {
	list := fiveKeys()
	for _, order := range orders(len(list)) {
		var came []api.Skipped
		for _, i := range order {
			came = append(came, list[i])
		}
		s, _ := made(t, 5, came...)
		for range 3 {
			if got := s.List(); !slices.Equal(got, list) {
				t.Fatalf("P15.6: %v: List %x, want %x", order, got, list)
			}
		}
	}
	s, w := made(t, 256)
	for n := range uint32(256) {
		isAdded(t, "many", s, w, (n*37)%7, (n*101)%256*(1<<23), key(int(n)))
	}
	for range 50 {
		isSame(t, "many", s, w)
	}
}

// P15.6: a copy holds the same, has the same bound, and goes on by itself, as the first one does.
func TestCopy(t *testing.T) {
	for most := 0; most <= 5; most++ {
		for held := 0; held <= most; held++ {
			what := fmt.Sprintf("%d of %d", held, most)
			s, w := made(t, most, rising(4, 8, held)...)
			c, cw := s.Copy(), w.copy()
			isSame(t, what, c, cw)
			hasBound(t, what, c, cw)
			isAdded(t, what, c, cw, 5, 0, key(50))
			isTaken(t, what, c, cw, 4, 8)
			isSame(t, what+": the first one, behind the copy's changes", s, w)
			cc, ccw := c.Copy(), cw.copy()
			isTaken(t, what, s, w, 4, 9)
			isAdded(t, what, s, w, 5, 1, key(51))
			isSame(t, what+": the first one", s, w)
			isSame(t, what+": the copy, behind the first one's changes", c, cw)
			isTaken(t, what, c, cw, 4, 10)
			isSame(t, what+": the copy's copy", cc, ccw)
			hasBound(t, what+": the copy's copy", cc, ccw)
			hasBound(t, what+": the first one", s, w)
		}
	}
}
