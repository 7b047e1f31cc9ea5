package skips_test

import (
	"math"
	"math/rand"
	"slices"
	"testing"

	"lethe/api"
	"lethe/skips"
)

const last = math.MaxUint32

// key: one that no other number has.
func key(n int) api.Key { return api.Key{0: byte(n), 1: byte(n >> 8), 31: byte(n) + 1} }

// keys: so many, from number from on.
func keys(from, count int) []api.Key {
	list := make([]api.Key, count)
	for i := range list {
		list[i] = key(from + i)
	}
	return list
}

func skipped(turn, n uint32, k api.Key) api.Skipped { return api.Skipped{Turn: turn, N: n, Key: k} }

// rising: so many entries of one turn, from number first on.
func rising(turn, first uint32, count int) []api.Skipped {
	var list []api.Skipped
	for i := range count {
		list = append(list, skipped(turn, first+uint32(i), key(i)))
	}
	return list
}

// farNumbers: numbers beside the bounds of a table's most, and those whose low bits could be taken for one.
func farNumbers() []int {
	return []int{math.MinInt, math.MinInt + 1, math.MinInt + 256, -1 << 32, -1<<32 + 5, -256, -255, -2, -1, 257, 258, 511, 512, 1 << 16, 1<<31 - 1, 1 << 31, 1 << 32, 1<<32 + 1, 1<<32 + 256, math.MaxInt - 1, math.MaxInt}
}

// words: a table made from the chapter's words: a plain list, in the order in which the keys came.
type words struct {
	most int
	list []api.Skipped
}

func (w *words) at(turn, n uint32) int {
	for i, s := range w.list {
		if s.Turn == turn && s.N == n {
			return i
		}
	}
	return -1
}

func (w *words) add(turn, first uint32, keys []api.Key) api.Errno {
	if len(keys) == 0 {
		return 0
	}
	if uint64(first)+uint64(len(keys))-1 > last {
		return 130
	}
	for i := range keys {
		if w.at(turn, first+uint32(i)) >= 0 {
			return 151
		}
	}
	if len(w.list)+len(keys) > w.most {
		return 150
	}
	for i, k := range keys {
		w.list = append(w.list, skipped(turn, first+uint32(i), k))
	}
	return 0
}

func (w *words) find(turn, n uint32) (api.Key, api.Errno) {
	i := w.at(turn, n)
	if i < 0 {
		return api.Key{}, 152
	}
	return w.list[i].Key, 0
}

func (w *words) take(turn, n uint32) (api.Key, api.Errno) {
	k, e := w.find(turn, n)
	if i := w.at(turn, n); i >= 0 {
		w.list = slices.Delete(w.list, i, i+1)
	}
	return k, e
}

// sorted: by picking the lowest place out, again and again.
func (w *words) sorted() []api.Skipped {
	left, out := slices.Clone(w.list), []api.Skipped(nil)
	for len(left) > 0 {
		low := 0
		for i, s := range left {
			if s.Turn < left[low].Turn || s.Turn == left[low].Turn && s.N < left[low].N {
				low = i
			}
		}
		out = append(out, left[low])
		left = slices.Delete(left, low, low+1)
	}
	return out
}

func (w *words) copy() *words { return &words{w.most, slices.Clone(w.list)} }

// made: a table and its words that hold these entries.
func made(t *testing.T, most int, list ...api.Skipped) (*skips.Table, *words) {
	t.Helper()
	s, e := skips.New(most)
	if e != api.OK || s == nil {
		t.Fatalf("P15.2: New(%d): error %d", most, e)
	}
	w := &words{most: most}
	for _, x := range list {
		isAdded(t, "made", s, w, x.Turn, x.N, x.Key)
	}
	return s, w
}

// What is asked of the calls.

func isAdded(t *testing.T, what string, s *skips.Table, w *words, turn, first uint32, keys ...api.Key) {
	t.Helper()
	if got, want := s.Add(turn, first, keys...), w.add(turn, first, keys); got != want {
		t.Errorf("P15.4: %s: Add(%d, %d, %d keys): error %d, want %d", what, turn, first, len(keys), got, want)
	}
}

func isRefused(t *testing.T, what string, s *skips.Table, w *words, code api.Errno, turn, first uint32, keys ...api.Key) {
	t.Helper()
	if got := s.Add(turn, first, keys...); got != code {
		t.Errorf("P15.4: %s: Add(%d, %d, %d keys): error %d, want %d", what, turn, first, len(keys), got, code)
	}
	isSame(t, what+": behind the refusal", s, w)
}

func isFound(t *testing.T, what string, s *skips.Table, w *words, turn, n uint32) {
	t.Helper()
	got, e := s.Find(turn, n)
	if want, f := w.find(turn, n); got != want || e != f {
		t.Errorf("P15.5: %s: Find(%d, %d): error %d, %x, want %d, %x", what, turn, n, e, got, f, want)
	}
}

func isTaken(t *testing.T, what string, s *skips.Table, w *words, turn, n uint32) {
	t.Helper()
	got, e := s.Take(turn, n)
	if want, f := w.take(turn, n); got != want || e != f {
		t.Errorf("P15.5: %s: Take(%d, %d): error %d, %x, want %d, %x", what, turn, n, e, got, f, want)
	}
}

// isSame: all that a table can be asked for without changing it, at all its places and beside them.
func isSame(t *testing.T, what string, s *skips.Table, w *words) {
	t.Helper()
	if n := s.Len(); n != len(w.list) {
		t.Errorf("P15.6: %s: Len %d, want %d", what, n, len(w.list))
	}
	if list, want := s.List(), w.sorted(); !slices.Equal(list, want) {
		t.Errorf("P15.6: %s: List %x, want %x", what, list, want)
	}
	for _, x := range append(w.copy().list, skipped(0, 0, key(0)), skipped(last, last, key(0))) {
		for _, d := range []uint32{0, 1, last} {
			isFound(t, what, s, w, x.Turn, x.N+d)
			isFound(t, what, s, w, x.Turn+d, x.N)
		}
		isFound(t, what, s, w, x.N, x.Turn)
	}
}

// hasBound: the table takes as many more keys as its most leaves, and then no other; a copy is asked, so that it stays as it was.
func hasBound(t *testing.T, what string, s *skips.Table, w *words) {
	t.Helper()
	s, w = s.Copy(), w.copy()
	for n := range uint32(1000) {
		if w.at(77, n) >= 0 {
			continue
		}
		isAdded(t, what+": filled up", s, w, 77, n, key(int(n)))
		if len(w.list) == w.most && n > 300 {
			return
		}
	}
}

// Drawn things: they hang on the seed alone.

// drawnPlace: few turns and numbers, at both ends of what they may be, so that places meet.
func drawnPlace(r *rand.Rand) (turn, n uint32) {
	return []uint32{0, 1, 2, last}[r.Intn(4)], []uint32{0, 1, 2, 3, 9, 1 << 31, last - 2, last - 1, last}[r.Intn(9)]
}

// drawnKey: now and then one of zeros.
func drawnKey(r *rand.Rand) api.Key {
	var k api.Key
	if r.Intn(6) > 0 {
		r.Read(k[:])
	}
	return k
}

func drawnKeys(r *rand.Rand, most int) []api.Key {
	list := make([]api.Key, r.Intn(most+1))
	for i := range list {
		list[i] = drawnKey(r)
	}
	return list
}

// whole: a list with its spare room.
func whole[T any](list []T) []T { return list[:cap(list)] }
