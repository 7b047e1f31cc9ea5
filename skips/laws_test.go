package skips_test

import (
	"fmt"
	"math/rand"
	"slices"
	"testing"

	"lethe/api"
	"lethe/skips"
)

// step: a drawn call of the table and of its words.
func step(t *testing.T, what string, r *rand.Rand, s *skips.Table, w *words) {
	t.Helper()
	turn, n := drawnPlace(r)
	if len(w.list) > 0 && r.Intn(3) == 0 {
		x := w.list[r.Intn(len(w.list))]
		turn, n = x.Turn, x.N
	}
	switch r.Intn(5) {
	case 0, 1:
		isAdded(t, what, s, w, turn, n, drawnKeys(r, 4)...)
	case 2:
		isFound(t, what, s, w, turn, n)
	default:
		isTaken(t, what, s, w, turn, n)
	}
}

// P15.1 to P15.6: drawn runs, held against the chapter's words behind each call.
func TestDrawnRuns(t *testing.T) {
	r := rand.New(rand.NewSource(15))
	for run := range 300 {
		s, w := made(t, []int{0, 1, 2, 3, 5, 8, 13, 256}[r.Intn(8)])
		for n := range 100 {
			what := fmt.Sprintf("run %d, call %d", run, n)
			step(t, what, r, s, w)
			isSame(t, what, s, w)
			if r.Intn(20) == 0 {
				s, w = s.Copy(), w.copy()
			}
			if t.Failed() {
				return
			}
		}
	}
}

// P15.7: a table that is loaded with another one's list and most answers as that one does, from then on, whatever was before.
func TestLoadedTwins(t *testing.T) {
	r := rand.New(rand.NewSource(16))
	for run := range 200 {
		s, w := made(t, []int{0, 1, 2, 4, 8, 16, 256}[r.Intn(7)])
		for n := range 60 {
			step(t, fmt.Sprintf("run %d, call %d", run, n), r, s, w)
		}
		twin, e := skips.Load(w.most, s.List())
		if e != api.OK {
			t.Fatalf("P15.7: run %d: Load: error %d", run, e)
		}
		tw := w.copy()
		for n := range 60 {
			what := fmt.Sprintf("run %d, twins, call %d", run, n)
			seed := r.Int63()
			step(t, what, rand.New(rand.NewSource(seed)), s, w)
			step(t, what, rand.New(rand.NewSource(seed)), twin, tw)
			if !slices.Equal(s.List(), twin.List()) {
				t.Fatalf("P15.7: %s: %x and %x", what, s.List(), twin.List())
			}
		}
		isSame(t, "the first one", s, w)
		isSame(t, "its twin", twin, tw)
		hasBound(t, "its twin", twin, tw)
		if t.Failed() {
			return
		}
	}
}

// P15.7: the same keys come about in three ways: at once, one by one backwards, and with others that were taken again.
func TestTableIsASet(t *testing.T) {
	once, w := made(t, 6)
	isAdded(t, "at once", once, w, 2, 7, keys(0, 5)...)
	backwards, _ := made(t, 6)
	winding, _ := made(t, 6)
	for i := 4; i >= 0; i-- {
		backwards.Add(2, uint32(7+i), key(i))
	}
	for i := range 5 {
		winding.Add(2, uint32(7+i), key(90))
		winding.Take(2, uint32(7+i))
		winding.Add(9, 9, key(91))
		winding.Add(2, uint32(7+i), key(i))
		winding.Take(9, 9)
	}
	for _, s := range []*skips.Table{once, backwards, winding} {
		isSame(t, "the set", s, w)
		hasBound(t, "the set", s, w)
	}
}

// P15.7: refused calls leave nothing behind.
func TestRefusedLeaveNothing(t *testing.T) {
	s, w := made(t, 3, fiveKeys()[:3]...)
	for range 3 {
		isRefused(t, "full", s, w, api.ErrSkips, 5, 5, key(1))
		isRefused(t, "taken", s, w, api.ErrTwice, 0, 0, key(1))
		isRefused(t, "beyond", s, w, api.ErrCounter, 5, last, keys(1, 2)...)
		isTaken(t, "not there", s, w, 5, 5)
		isSame(t, "not there", s, w)
	}
	isTaken(t, "there", s, w, 0, 0)
	isAdded(t, "room", s, w, 5, 5, key(7))
	isSame(t, "at the end", s, w)
	hasBound(t, "at the end", s, w)
}

// Rule 5: two tables go their ways without seeing each other.
func TestTablesInTurns(t *testing.T) {
	r := rand.New(rand.NewSource(17))
	s, w := made(t, 8)
	o, ow := made(t, 3)
	for n := range 2000 {
		step(t, fmt.Sprintf("one, call %d", n), r, s, w)
		step(t, fmt.Sprintf("other, call %d", n), r, o, ow)
	}
	isSame(t, "one", s, w)
	isSame(t, "other", o, ow)
}
