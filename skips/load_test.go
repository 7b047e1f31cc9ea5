package skips_test

import (
	"fmt"
	"slices"
	"testing"

	"lethe/api"
	"lethe/skips"
)

// P15.2: every most that there may be: an empty table, which takes so many keys, at once or one by one, and no more.
func TestNew(t *testing.T) {
	for most := 0; most <= 256; most++ {
		s, w := made(t, most)
		isSame(t, "a new one", s, w)
		isRefused(t, "one too many at once", s, w, api.ErrSkips, 3, 10, keys(0, most+1)...)
		one, ow := s.Copy(), w.copy()
		isAdded(t, "all at once", s, w, 3, 10, keys(0, most)...)
		isRefused(t, "full", s, w, api.ErrSkips, 4, 0, key(1))
		for i := range most {
			isAdded(t, "one by one", one, ow, 3, 10+uint32(i), key(i))
		}
		isRefused(t, "full", one, ow, api.ErrSkips, 0, 0, key(1))
	}
}

// P15.2, P15.3: a most out of its bounds, whatever the list is.
func TestLimits(t *testing.T) {
	lists := [][]api.Skipped{nil, {}, rising(0, 0, 1), rising(0, 0, 300), {skipped(1, 1, key(1)), skipped(1, 1, key(1))}}
	for _, most := range farNumbers() {
		if s, e := skips.New(most); s != nil || e != api.ErrLimits {
			t.Errorf("P15.2: New(%d): error %d, table %v", most, e, s)
		}
		for i, list := range lists {
			if s, e := skips.Load(most, list); s != nil || e != api.ErrLimits {
				t.Errorf("P15.3: Load(%d, list %d): error %d, table %v", most, i, e, s)
			}
		}
	}
}

func isLoaded(t *testing.T, what string, most int, list []api.Skipped) {
	t.Helper()
	s, e := skips.Load(most, list)
	if e != api.OK || s == nil {
		t.Fatalf("P15.3: %s: Load(%d, %d entries): error %d, table %v", what, most, len(list), e, s)
	}
	w := &words{most, slices.Clone(list)}
	isSame(t, what, s, w)
	hasBound(t, what, s, w)
}

func isNotLoaded(t *testing.T, what string, most int, list []api.Skipped, code api.Errno) {
	t.Helper()
	if s, e := skips.Load(most, list); s != nil || e != code {
		t.Errorf("P15.3: %s: Load(%d, %d entries): error %d, table %v, want %d", what, most, len(list), e, s, code)
	}
}

// P15.3: lists in their order, at the ends of what turns and numbers may be.
func TestLoad(t *testing.T) {
	k := keys(0, 6)
	isLoaded(t, "nothing", 0, nil)
	isLoaded(t, "a list without elements", 9, []api.Skipped{})
	isLoaded(t, "one at the lowest place", 1, []api.Skipped{skipped(0, 0, k[1])})
	isLoaded(t, "one at the highest place", 1, []api.Skipped{skipped(last, last, k[1])})
	isLoaded(t, "both ends", 4, []api.Skipped{skipped(0, 0, k[1]), skipped(0, last, k[2]), skipped(last, 0, k[3]), skipped(last, last, k[4])})
	isLoaded(t, "turns rise, numbers fall", 4, []api.Skipped{skipped(1, 9, k[4]), skipped(2, 8, k[3]), skipped(3, 0, k[2])})
	isLoaded(t, "beyond what an int32 holds", 3, []api.Skipped{skipped(5, 1<<31-1, k[0]), skipped(5, 1<<31, k[1]), skipped(1<<31, 0, k[2])})
	isLoaded(t, "one key at all places, and a zero one", 3, []api.Skipped{skipped(0, 0, k[1]), skipped(0, 1, k[1]), skipped(0, 2, api.Key{})})
	for most := 0; most <= 256; most += 16 {
		isLoaded(t, "full", most, rising(2, 5, most))
		isLoaded(t, "one short of full", most, rising(2, last-300, max(0, most-1)))
	}
}

// P15.3: a list that is longer than most, in order or not.
func TestLoadTooLong(t *testing.T) {
	for _, most := range []int{0, 1, 2, 3, 64, 255, 256} {
		for _, more := range []int{1, 2, 300, 1 << 16} {
			list := rising(1, 0, most+more)
			what := fmt.Sprintf("%d more than %d", more, most)
			isNotLoaded(t, what, most, list, api.ErrSkips)
			list[len(list)-1].Turn = 0
			isNotLoaded(t, what+", the last one out of order", most, list, api.ErrSkips)
			slices.Reverse(list)
			isNotLoaded(t, what+", falling", most, list, api.ErrSkips)
		}
	}
}

// P15.3: places that don't rise, at each place of the list: two that are one, and ones that fall by turn, or by number.
func TestLoadOrder(t *testing.T) {
	const count = 8
	for at := 1; at < count; at++ {
		for i, wrong := range []func(ahead api.Skipped) api.Skipped{
			func(x api.Skipped) api.Skipped { return x },
			func(x api.Skipped) api.Skipped { return skipped(x.Turn, x.N, key(99)) },
			func(x api.Skipped) api.Skipped { return skipped(x.Turn, x.N-1, key(99)) },
			func(x api.Skipped) api.Skipped { return skipped(x.Turn, 0, key(99)) },
			func(x api.Skipped) api.Skipped { return skipped(x.Turn-1, x.N, key(99)) },
			func(x api.Skipped) api.Skipped { return skipped(x.Turn-1, x.N+1, key(99)) },
			func(x api.Skipped) api.Skipped { return skipped(0, last, key(99)) },
		} {
			list := rising(3, 10, count)
			list[at] = wrong(list[at-1])
			isNotLoaded(t, fmt.Sprintf("kind %d at %d", i, at), count, list, api.ErrOrder)
			isNotLoaded(t, fmt.Sprintf("kind %d at %d, too long", i, at), count-1, list, api.ErrSkips)
		}
	}
	isNotLoaded(t, "from the highest place to the lowest", 2, []api.Skipped{skipped(last, last, key(1)), skipped(0, 0, key(2))}, api.ErrOrder)
	isNotLoaded(t, "2^31 ahead of what is below it", 2, []api.Skipped{skipped(0, 1<<31, key(1)), skipped(0, 1<<31-1, key(2))}, api.ErrOrder)
	isNotLoaded(t, "turns fall by 2^31", 2, []api.Skipped{skipped(1<<31, 0, key(1)), skipped(0, 0, key(2))}, api.ErrOrder)
}
