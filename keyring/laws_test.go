package keyring_test

import (
	"bytes"
	"fmt"
	"math/rand"
	"testing"

	"lethe/api"
)

// run: what a test notes of a client, beside the records: which numbers it has given, and which were used.
type run struct {
	*bench
	given, used map[uint32]api.Pair
	saved       [2]map[uint32]api.Pair
	next        int // the next draw
}

func copied(m map[uint32]api.Pair) map[uint32]api.Pair {
	c := map[uint32]api.Pair{}
	for k, v := range m {
		c[k] = v
	}
	return c
}

func (u *run) save()    { u.saved = [2]map[uint32]api.Pair{copied(u.given), copied(u.used)} }
func (u *run) restore() { u.given, u.used = copied(u.saved[0]), copied(u.saved[1]) }

// doPublish: P19.8: no number is given twice; P19.5: they count on.
func (u *run) doPublish(what string, n int) {
	u.t.Helper()
	some := draws(u.next, n)
	offers, e := u.publish(what, some...)
	if e != api.OK {
		return
	}
	u.next += n
	for i, o := range offers {
		if _, twice := u.given[o.Prekey]; twice || int(o.Prekey) != len(u.given)+1 {
			u.t.Errorf("P19.8: %s: number %d behind %d", what, o.Prekey, len(u.given))
		}
		u.given[o.Prekey] = wordsPair(some[i])
	}
}

// isKnown: P19.6, P19.8: a prekey answers by its number as long as it was given and not used.
func (u *run) isKnown(what string, number uint32, p api.Pair, e api.Errno) {
	u.t.Helper()
	want, given := u.given[number]
	if _, used := u.used[number]; used || !given {
		if e != 190 || p != (api.Pair{}) {
			u.t.Errorf("P19.8: %s: number %d: %x, %d", what, number, p, e)
		}
	} else if e != 0 || p != want {
		u.t.Errorf("P19.6: %s: number %d: %x, %d", what, number, p, e)
	}
}

// isGone: P19.9: no value that the transaction sees has anything of a used pair. (The draws are all unlike.)
func (u *run) isGone(what string) {
	u.t.Helper()
	for _, r := range u.seen() {
		for number, p := range u.used {
			if bytes.Contains(r.Value, p.Priv[:]) || bytes.Contains(r.Value, p.Pub[:]) {
				u.t.Errorf("P19.9: %s: prekey %d stands in a record of table %d", what, number, r.Table)
			}
		}
	}
}

// isGoneFromDisk: behind a Commit no byte of the disk tells of it either.
func (u *run) isGoneFromDisk(what string) {
	u.t.Helper()
	image := u.d.Image()
	for number, p := range u.used {
		if bytes.Contains(image, p.Priv[:]) || bytes.Contains(image, p.Pub[:]) {
			u.t.Errorf("P19.9: %s: prekey %d stands on the disk", what, number)
		}
	}
}

func (u *run) step(what string, r *rand.Rand, most int) {
	u.t.Helper()
	number := uint32(r.Intn(len(u.given) + 3))
	if r.Intn(30) == 0 {
		number = r.Uint32() | 1<<20
	}
	switch r.Intn(12) {
	case 0, 1, 2:
		u.doPublish(what, r.Intn(most+2))
	case 3:
		u.publish(what, draw(u.next), steps(1, r.Intn(32)))
	case 4, 5:
		p, e := u.find(what, number)
		u.isKnown(what, number, p, e)
	case 6, 7, 8:
		p, e := u.use(what, number)
		u.isKnown(what, number, p, e)
		if e == api.OK {
			u.used[number] = p
		}
		u.isGone(what)
	case 9:
		u.commit()
		u.save()
		u.isGoneFromDisk(what)
	case 10:
		u.abort()
		u.restore()
	case 11:
		u.reopen()
		u.restore()
	}
	u.isKept(what, most)
}

// isKept: P19.7, P19.8: the numbers that are told are those that were given and not used; there are never more than may be.
func (u *run) isKept(what string, most int) {
	u.t.Helper()
	numbers, e := u.numbers(what)
	if e != 0 || len(numbers) != len(u.given)-len(u.used) || len(numbers) > most {
		u.t.Errorf("P19.8: %s: %d, %d; %d given, %d used, at most %d", what, numbers, e, len(u.given), len(u.used), most)
	}
	for i, n := range numbers {
		_, given := u.given[n]
		_, used := u.used[n]
		if !given || used || i > 0 && numbers[i-1] >= n {
			u.t.Errorf("P19.7: %s: %d", what, numbers)
		}
	}
}

// P19.8, P19.9: drawn runs of all calls, with what was not committed given up now and then, to the counter's end and beyond it.
func TestDrawnRuns(t *testing.T) {
	r := rand.New(rand.NewSource(19))
	atEnd := 0
	for k := range 40 {
		most := []int{1, 2, 3, 5, 9}[r.Intn(5)]
		counter := []uint32{1, 4, 20, 1000}[r.Intn(4)]
		u := &run{bench: created(t, wideLimits(most, counter)), given: map[uint32]api.Pair{}, used: map[uint32]api.Pair{}, next: 1000 * k}
		u.save()
		for n := range 120 {
			u.step(fmt.Sprintf("run %d, step %d", k, n), r, most)
			if t.Failed() {
				return
			}
		}
		if len(u.given) == int(counter) {
			atEnd++
		}
	}
	if atEnd < 5 {
		t.Errorf("only %d runs came to the counter's end", atEnd)
	}
}

// P19.8: every number is given once, from 1 to Counter, with one prekey at a time; then none is given any more, and each is refused for good.
func TestEveryNumberOnce(t *testing.T) {
	b := created(t, wideLimits(1, 300))
	for n := range 300 {
		b.isPublished("one more", draws(n%8, 1), 0, uint32(n+1))
		b.isPublished("no room", draws(0, 1), 191)
		if p, e := b.use("one more", uint32(n+1)); e != 0 || p != wordsPair(draw(n%8)) {
			t.Fatalf("P19.6: number %d: %x, %d", n+1, p, e)
		}
	}
	b.isPublished("one too many", draws(0, 1), 130)
	for n := range uint32(303) {
		_, e := b.find("over", n)
		isCode(t, "P19.8: Find", e, 190)
		_, e = b.use("over", n)
		isCode(t, "P19.8: Use", e, 190)
	}
	b.areNumbers("over")
}

// P19.9: behind Publish and Use of all of them the records, and the disk's image, are those of a client that has published as many without keeping one.
func TestNothingIsLeft(t *testing.T) {
	b := created(t, wideLimits(8, 8))
	b.isPublished("eight", draws(1, 8), 0, 1, 2, 3, 4, 5, 6, 7, 8)
	b.commit()
	for _, n := range []uint32{5, 1, 8, 2, 7, 3, 6, 4} {
		b.use("all", n)
		b.commit()
	}
	bare := created(t, wideLimits(8, 8))
	bare.put(rec(7, one(), four(8)))
	bare.commit()
	if !sameList(b.s.All(), bare.s.All()) || !bytes.Equal(b.d.Image(), bare.d.Image()) {
		t.Errorf("P19.9: %s, want %s", told(b.s.All()), told(bare.s.All()))
	}
}
