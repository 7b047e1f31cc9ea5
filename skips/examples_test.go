package skips_test

import (
	"slices"
	"testing"

	"lethe/api"
	"lethe/skips"
)

// P15.2 to P15.6: the chapter's table, line by line.
func TestChapterExamples(t *testing.T) {
	a, b, c, d := key(1), key(2), key(3), key(4)
	for _, most := range []int{-1, 257} {
		if s, e := skips.New(most); s != nil || e != api.ErrLimits {
			t.Errorf("New(%d): error %d, table %v", most, e, s)
		}
	}
	none, e := skips.New(0)
	if none == nil || e != api.OK || none.Add(0, 0, a) != api.ErrSkips {
		t.Errorf("New(0): error %d, or it takes a key", e)
	}
	s, e := skips.New(3)
	if s == nil || e != api.OK {
		t.Fatalf("New(3): error %d", e)
	}
	added := func(want, got api.Errno) {
		t.Helper()
		if got != want {
			t.Errorf("Add: error %d, want %d", got, want)
		}
	}
	added(api.OK, s.Add(1, 5, a, b))
	added(api.ErrTwice, s.Add(1, 4, c, d))
	added(api.ErrSkips, s.Add(0, 9, c, d))
	if s.Len() != 2 {
		t.Errorf("Len: %d: something has come in", s.Len())
	}
	added(api.ErrCounter, s.Add(0, 4294967295, c, d))
	added(api.OK, s.Add(0, 4294967295))
	added(api.OK, s.Add(0, 9, c))
	want := []api.Skipped{{Turn: 0, N: 9, Key: c}, {Turn: 1, N: 5, Key: a}, {Turn: 1, N: 6, Key: b}}
	if list := s.List(); !slices.Equal(list, want) {
		t.Errorf("List: %x, want %x", list, want)
	}
	if k, e := s.Take(1, 5); k != a || e != api.OK {
		t.Errorf("Take: error %d, %x", e, k)
	}
	if k, e := s.Take(1, 5); k != (api.Key{}) || e != api.ErrNoKey {
		t.Errorf("Take again: error %d, %x", e, k)
	}
	if k, e := s.Find(1, 6); k != b || e != api.OK {
		t.Errorf("Find: error %d, %x", e, k)
	}
	if s.Len() != 2 {
		t.Errorf("Len: %d, want 2", s.Len())
	}
	falls := []api.Skipped{{Turn: 1, N: 6, Key: b}, {Turn: 0, N: 9, Key: c}}
	if s, e := skips.Load(3, falls); s != nil || e != api.ErrOrder {
		t.Errorf("Load(3): error %d, table %v", e, s)
	}
	if s, e := skips.Load(1, falls); s != nil || e != api.ErrSkips {
		t.Errorf("Load(1): error %d, table %v", e, s)
	}
}
