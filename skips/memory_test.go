package skips_test

import (
	"slices"
	"testing"

	"lethe/api"
	"lethe/skips"
)

// P15.1: keys that are handed to Add stay as they were, their spare room too, whatever it answers; and what is written into them then is not seen.
func TestAddedKeysStay(t *testing.T) {
	for _, c := range []struct {
		turn, first uint32
		want        api.Errno
	}{{1, 0, api.OK}, {0, 0, api.ErrTwice}, {1, last, api.ErrCounter}, {2, 0, api.ErrSkips}} {
		s, w := made(t, 4, skipped(0, 1, key(77)))
		if c.want == api.ErrSkips {
			s, w = made(t, 3, skipped(0, 1, key(77)))
		}
		array := keys(20, 10)
		given := array[2:5]
		before := slices.Clone(array)
		if e := s.Add(c.turn, c.first, given...); e != c.want || w.add(c.turn, c.first, given) != c.want {
			t.Errorf("P15.4: error %d, want %d", e, c.want)
		}
		if !slices.Equal(array, before) {
			t.Errorf("P15.1: error %d: the keys, or what lies beside them, have changed", c.want)
		}
		for i := range array {
			array[i] = api.Key{0xee}
		}
		isSame(t, "behind the writing", s, w)
		for _, x := range w.copy().list {
			isTaken(t, "taken", s, w, x.Turn, x.N)
		}
		s.List()
		if slices.ContainsFunc(array, func(k api.Key) bool { return k != api.Key{0xee} }) {
			t.Errorf("P15.1: error %d: the keys were written to later", c.want)
		}
	}
}

// P15.1: so with the list that is handed to Load, right or wrong.
func TestLoadedListStays(t *testing.T) {
	falling := fiveKeys()
	slices.Reverse(falling)
	for i, list := range [][]api.Skipped{fiveKeys(), falling, {}} {
		for _, most := range []int{-1, 0, 4, 5, 9} {
			array := append(slices.Clone(list), fiveKeys()...)
			before := slices.Clone(array)
			s, e := skips.Load(most, array[:len(list)])
			if !slices.Equal(array, before) {
				t.Fatalf("P15.1: list %d, most %d: the list, or what lies behind it, has changed", i, most)
			}
			if e != api.OK {
				continue
			}
			for k := range array {
				array[k] = skipped(6, uint32(k), key(99))
			}
			written := slices.Clone(array)
			w := &words{most, slices.Clone(list)}
			isSame(t, "behind the writing", s, w)
			isAdded(t, "goes on", s, w, 6, 0, key(1))
			isTaken(t, "goes on", s, w, 0, 0)
			if !slices.Equal(array, written) {
				t.Errorf("P15.1: list %d, most %d: the list was written to later", i, most)
			}
		}
	}
}

// P15.1: lists that are answered are new memory, spare room too: neither the table, nor a copy, nor another list sees what is written there.
func TestAnsweredListsAreNew(t *testing.T) {
	for _, count := range []int{0, 1, 2, 5, 255, 256} {
		s, w := made(t, 256, rising(1, 0, count)...)
		c := s.Copy()
		kept, spoilt, copied := s.List(), s.List(), c.List()
		for i := range whole(spoilt) {
			whole(spoilt)[i] = skipped(9, 9, key(99))
		}
		_ = append(spoilt, skipped(8, 8, key(98)))
		for i, list := range [][]api.Skipped{kept, copied, s.List(), c.List()} {
			if !slices.Equal(list, w.sorted()) {
				t.Errorf("P15.1: %d keys: list %d sees what is written into another", count, i)
			}
		}
		isSame(t, "behind the writing", s, w)
		isSame(t, "behind the writing, the copy", c, w)
	}
}

// P15.1: a list that was answered stays as it was, whatever becomes of the table.
func TestAnsweredListsStay(t *testing.T) {
	s, w := made(t, 9, fiveKeys()...)
	list := s.List()
	for _, x := range fiveKeys() {
		isTaken(t, "all", s, w, x.Turn, x.N)
	}
	isAdded(t, "others", s, w, 0, 0, keys(60, 9)...)
	s.List()
	if !slices.Equal(list, fiveKeys()) {
		t.Errorf("P15.1: the list has become %x", list)
	}
}

// P15.5: behind Take a key stands in no list, its spare room included.
func TestTakenKeysStandNowhere(t *testing.T) {
	s, w := made(t, 64, rising(3, 0, 64)...)
	for n := range uint32(64) {
		isTaken(t, "one by one", s, w, 3, n)
		for _, list := range [][]api.Skipped{s.List(), s.Copy().List()} {
			for i, x := range whole(list) {
				if i >= len(list) && x != (api.Skipped{}) || x.Key == key(int(n)) && x.Key != (api.Key{}) {
					t.Fatalf("P15.5: behind Take(3, %d) place %d of a list of %d holds %x", n, i, len(list), x)
				}
			}
		}
	}
}
