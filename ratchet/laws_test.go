package ratchet_test

import (
	"fmt"
	"math/rand"
	"slices"
	"strconv"
	"testing"

	"lethe/api"
)

// talk: two machines, and what is on its way to each.
type talk struct {
	sides  [2]side
	coming [2][]letter
	taken  [2][]letter
	count  int
}

func (k talk) copy() talk {
	for i := range 2 {
		k.coming[i], k.taken[i] = slices.Clone(k.coming[i]), slices.Clone(k.taken[i])
	}
	return k
}

func newTalk(t *testing.T, n int) talk {
	a, b := begun(t, n)
	return talk{sides: [2]side{a, b}}
}

// says: one side sends; false, if it can't yet.
func (k *talk) says(t *testing.T, who int, counter uint32) bool {
	t.Helper()
	if k.sides[who].s.Own == 0 {
		return false
	}
	k.count++
	m := k.sides[who].sends(t, counter, "text "+strconv.Itoa(k.count), "data "+strconv.Itoa(k.count%5))
	k.coming[1-who] = append(k.coming[1-who], m)
	return true
}

// hears: the message number at of those that are on their way comes.
func (k *talk) hears(t *testing.T, what string, who, at int, lim api.Limits) {
	t.Helper()
	m := k.coming[who][at]
	k.count++
	k.sides[who].gets(t, what, m, lim, key(1000+k.count))
	k.coming[who] = slices.Delete(slices.Clone(k.coming[who]), at, at+1)
	k.taken[who] = append(k.taken[who], m)
}

// forgets: P16.3: all that was taken is refused with ErrOld, whatever body and data come with it.
func (k *talk) forgets(t *testing.T, what string) {
	t.Helper()
	for who := range 2 {
		for _, m := range k.taken[who] {
			k.sides[who].refuses(t, "P16.3: "+what+": once more", api.ErrOld, m, wide())
			m.body, m.data, m.h.Prev = nil, nil, m.h.Prev+1
			k.sides[who].refuses(t, "P16.3: "+what+": once more, altered", api.ErrOld, m, api.Limits{})
		}
	}
}

// P16.2, P16.3: everything that two machines can do in a few steps: each sends, or one of the messages comes, in all orders.
func TestAllShortTalks(t *testing.T) {
	talks := 0
	var goOn func(k talk, steps int)
	goOn = func(k talk, steps int) {
		if t.Failed() {
			return
		}
		if steps == 0 {
			talks++
			k.forgets(t, "a short talk")
			return
		}
		for who := range 2 {
			if next := k.copy(); next.says(t, who, last) {
				goOn(next, steps-1)
			}
			for at := range k.coming[who] {
				next := k.copy()
				next.hears(t, "a short talk", who, at, wide())
				goOn(next, steps-1)
			}
		}
	}
	goOn(newTalk(t, 3), 8)
	if talks < 2000 {
		t.Errorf("%d talks alone", talks)
	}
}

// P16.2: all orders in which five messages of a turn may come.
func TestAllOrders(t *testing.T) {
	a, b := begun(t, 5)
	var all []letter
	for n := range 5 {
		all = append(all, a.sends(t, 5, "text "+strconv.Itoa(n), "d"))
	}
	ends := map[api.State]int{}
	var come func(b side, left []letter)
	come = func(b side, left []letter) {
		if len(left) == 0 {
			b.has(t, "behind all", 1, 1, 5)
			ends[b.s]++
		}
		for i, m := range left {
			next := b
			next.gets(t, "in any order", m, api.Limits{Skip: 4, Skips: 4, Counter: 5}, key(60))
			come(next, slices.Delete(slices.Clone(left), i, i+1))
		}
	}
	come(b, all)
	if len(ends) != 1 {
		t.Errorf("P16.4: the orders end in %d states", len(ends))
	}
}

// P16.2, P16.3: long drawn talks: messages come in any order, many turns late, or never; what was taken is refused ever after.
func TestDrawnTalks(t *testing.T) {
	r := rand.New(rand.NewSource(4))
	for run := range 25 {
		k := newTalk(t, run)
		for n := range 120 {
			what := fmt.Sprintf("run %d, step %d", run, n)
			who := r.Intn(2)
			switch waiting := len(k.coming[who]); {
			case waiting > 0 && (waiting > 25 || r.Intn(2) == 0):
				at := r.Intn(waiting)
				if r.Intn(3) == 0 {
					at = waiting - 1
				}
				k.hears(t, what, who, at, wide())
			default:
				k.says(t, who, last)
			}
		}
		k.forgets(t, fmt.Sprintf("run %d", run))
		for who := range 2 {
			for len(k.coming[who]) > 0 {
				k.hears(t, fmt.Sprintf("run %d: at last", run), who, r.Intn(len(k.coming[who])), wide())
			}
			if left := k.sides[who].list; len(left) > 0 {
				t.Errorf("P16.2: run %d: all have come, and %d skipped keys are left", run, len(left))
			}
		}
		k.forgets(t, fmt.Sprintf("run %d: at last", run))
	}
}

// P16.1: drawn talks under narrow limits: messages come again, come late, or are refused for want of room; the words say which. A refused one opens later, when there is room.
func TestDrawnNarrowTalks(t *testing.T) {
	r := rand.New(rand.NewSource(5))
	count := map[api.Errno]int{}
	for run := range 40 {
		k := newTalk(t, run)
		lim := api.Limits{Skip: r.Intn(4), Skips: r.Intn(6), Counter: uint32(2 + r.Intn(12))}
		for n := range 80 {
			who := r.Intn(2)
			x := &k.sides[who]
			if waiting := len(k.coming[who]); waiting > 0 && r.Intn(5) > 1 {
				m := k.coming[who][r.Intn(waiting)]
				a := isTold(t, fmt.Sprintf("run %d, step %d", run, n), x.with(m, lim, key(2000+n)))
				if a.e == api.OK {
					x.s, x.list = a.s, a.skipped
				}
				count[a.e]++
			} else if x.s.Sent < lim.Counter && x.s.Serial < lim.Counter {
				k.says(t, who, lim.Counter)
			}
			if len(x.list) > lim.Skips {
				t.Fatalf("P16.1: run %d, step %d: %d skipped keys, Skips is %d", run, n, len(x.list), lim.Skips)
			}
		}
	}
	for _, code := range []api.Errno{api.OK, api.ErrOld, api.ErrSkip, api.ErrSkips} {
		if count[code] < 20 {
			t.Errorf("error %d came %d times alone", code, count[code])
		}
	}
}

// P16.4: two messages of a turn, one behind the other, in both orders: of the turn that goes on and of a new one, with others missing ahead of them, or none, and with keys of other turns.
func TestLateIsAsEarly(t *testing.T) {
	r := rand.New(rand.NewSource(6))
	for run := range 60 {
		k := newTalk(t, run)
		for n := range r.Intn(25) {
			who := r.Intn(2)
			if waiting := len(k.coming[who]); waiting > 0 && r.Intn(2) == 0 {
				k.hears(t, "ahead of the two", who, r.Intn(waiting), wide())
			} else {
				k.says(t, n%2, last)
			}
		}
		from := 0
		if k.sides[1].s.Own > 0 {
			from = run % 2
		}
		x, y := k.sides[from], k.sides[1-from]
		one, two := x.sends(t, last, "one", "d"), x.sends(t, last, "two", "e")
		early, late := y, y
		early.gets(t, "in order", one, wide(), key(90))
		early.gets(t, "in order", two, wide(), key(90))
		late.gets(t, "the other way round", two, wide(), key(90))
		late.gets(t, "the other way round", one, wide(), key(90))
		if early.s != late.s || !slices.Equal(early.list, late.list) {
			t.Errorf("P16.4: run %d: in order %+v, %x\nthe other way round %+v, %x", run, early.s, early.list, late.s, late.list)
		}
	}
}
