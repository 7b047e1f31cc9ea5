package client_test

import (
	"bytes"
	"fmt"
	"testing"

	"lethe/api"
	"lethe/client"
	"lethe/sectors"
)

func keepOf(bits ...int) []uint64 {
	keep := make([]uint64, 4)
	for _, k := range bits {
		keep[k/64] |= 1 << (k % 64)
	}
	return keep
}

// losses: of n pending writes none is kept, all, each single one, all but one; each is torn, with the others kept or not.
func losses(n int) []api.Loss {
	var every []int
	for k := range n {
		every = append(every, k)
	}
	list := []api.Loss{{Torn: -1}, {Keep: keepOf(every...), Torn: -1}}
	for k := range n {
		others := append(append([]int{}, every[:k]...), every[k+1:]...)
		list = append(list, api.Loss{Keep: keepOf(k), Torn: -1}, api.Loss{Keep: keepOf(others...), Torn: -1},
			api.Loss{Torn: k, Offset: 20}, api.Loss{Keep: keepOf(others...), Torn: k, Offset: 511})
	}
	return list
}

// someLosses: a few of them.
func someLosses(n int) []api.Loss {
	if n == 0 {
		return losses(0)[:1]
	}
	list := losses(n)
	return []api.Loss{list[0], list[1], list[4], list[len(list)-4], list[len(list)-1]}
}

// pendingAt: how many writes are pending when the changing call of this number gives up, of a commit of so many pages.
func pendingAt(pages, step int) int {
	for _, group := range []int{2 * pages, 1, 2 * pages, 1, 2*pages + 1} {
		if step <= group+1 {
			return min(step, group)
		}
		step -= group + 1
	}
	return 0
}

// ruin: what is left of a disk that gave up, and how it may be opened: with the records ahead of the call, or with those behind it.
type ruin struct {
	t           *testing.T
	was, behind []api.Record // nil: what stood there is refused by Open, with that form
	refused     string
	depth       int // how often Open gives up too
	found       [2]int
}

// opens: the disk is opened, and each Open that it takes gives up at each of the disk's calls, as often as depth says: which, 0 or 1, of the two lists of records is found at last, always the same.
func (r *ruin) opens(what string, image []byte) int {
	r.t.Helper()
	which := r.opensAtLast(what, image)
	r.found[which]++
	seen := map[string]int{string(image): 1}
	now := [][]byte{image}
	for depth := range r.depth {
		var next [][]byte
		for _, b := range now {
			for _, left := range r.givenUpIn(what, b) {
				if seen[string(left)]++; seen[string(left)] > 1 {
					continue
				}
				if got := r.opensAtLast(fmt.Sprintf("%s, %d Opens gave up", what, depth+1), left); got != which {
					r.t.Errorf("%s: opened at once it has the records of %d, behind Opens that gave up those of %d", what, which, got)
				}
				next = append(next, left)
			}
		}
		now = next
	}
	return which
}

// givenUpIn: what Opens leave that give up at each of the disk's calls.
func (r *ruin) givenUpIn(what string, image []byte) [][]byte {
	r.t.Helper()
	var list [][]byte
	for step := 1; ; step++ {
		for _, loss := range someLosses(min(step, 6)) {
			d := diskOf(r.t, image)
			isCode(r.t, "Arm", d.Arm(step, loss), 0)
			c, err := client.Open(d)
			if !d.Down() {
				return list
			}
			isForm(r.t, what, err, "Open 0: Open 0: Open 0: 80")
			if c != nil {
				r.t.Errorf("%s: a client beside ErrDown", what)
			}
			list = append(list, d.Image())
		}
	}
}

// opensAtLast: 0: the records ahead of the call (or the refusal), 1: those behind it.
func (r *ruin) opensAtLast(what string, image []byte) int {
	r.t.Helper()
	d := diskOf(r.t, image)
	c, err := client.Open(d)
	if r.was == nil && form(err) == r.refused {
		return 0
	}
	if err != nil {
		r.t.Fatalf("P22.5: %s: Open: %s", what, form(err))
	}
	list := recordsOf(r.t, what, c)
	isLaidOut(r.t, what, d, c, list)
	switch {
	case sameList(list, r.behind):
		return 1
	case r.was == nil || !sameList(list, r.was):
		r.t.Fatalf("P22.5: %s: neither the records ahead of the call nor those behind it: %s", what, told(list))
	}
	return 0
}

// areBoth: each of the two was found.
func (r *ruin) areBoth(what string) {
	r.t.Helper()
	if r.found[0] == 0 || r.found[1] == 0 {
		r.t.Errorf("%s: %d times the records ahead of the call, %d times those behind it", what, r.found[0], r.found[1])
	}
}

// P22.5: each changing call, on a disk that gives up at each of its calls, with each kind of loss, and again as it is opened.
func TestGivesUpInCalls(t *testing.T) {
	for name, made := range changing(t) {
		t.Run(name, func(t *testing.T) {
			t.Parallel()
			b, x := made()
			r := &ruin{t: t, was: b.w.list, depth: 1}
			if name == "Ack" || name == "Publish on a small disk" {
				r.depth = 3
			}
			image := b.d.Image()
			behind := *b
			behind.takes(name, x)
			r.behind = behind.w.list
			calls := behind.d.Calls()
			if (calls-8)%6 != 0 {
				t.Fatalf("%d changing calls of the disk are no commit's", calls)
			}
			for step := 1; step <= calls; step++ {
				r.steps(name, x, image, (calls-8)/6, step)
			}
			r.areBoth(name)
		})
	}
}

// steps: the call over this image, whose commit of so many pages gives up at that step.
func (r *ruin) steps(name string, x call, image []byte, pages, step int) {
	r.t.Helper()
	seen := map[string]int{}
	for i, loss := range losses(pendingAt(pages, step)) {
		what := fmt.Sprintf("%s, step %d, loss %d", name, step, i)
		d := diskOf(r.t, image)
		c := opened(r.t, what, d)
		isCode(r.t, "Arm", d.Arm(step, loss), 0)
		got := x.madeBy(c)
		isForm(r.t, what, got.err, x.name+" 0: Commit 0: Commit 0: 80")
		if len(joined(got.lists...)) != 0 {
			r.t.Errorf("%s: beside ErrDown it answers %s", what, got)
		}
		left := d.Image()
		if seen[string(left)]++; seen[string(left)] > 1 {
			continue
		}
		if i == 0 {
			(&bench{t: r.t, d: d, c: c}).isEnded(what, 80)
		}
		which := r.opens(what, left)
		if step < 2*pages+2 && which != 0 || step > 2*pages+3 && which != 1 {
			r.t.Errorf("P22.5: %s: the records of %d", what, which)
		}
	}
}

// P22.2, P4: a call that has returned is durable: whatever the disk loses then, it is there.
func TestGivesUpBehindCalls(t *testing.T) {
	for name, made := range changing(t) {
		for _, loss := range losses(3) {
			b, x := made()
			b.takes(name, x)
			image := b.d.Image()
			isCode(t, "Crash", b.d.Crash(loss), 0)
			if !bytes.Equal(b.d.Image(), image) {
				t.Errorf("P22.2: %s: a crash behind it has changed the image", name)
			}
			isCode(t, "Up", b.d.Up(), 0)
			isLaidOut(t, name, b.d, opened(t, name, b.d), b.w.list)
		}
	}
}

// waiting: an image whose log holds a commit from one list to another.
func waiting(t *testing.T, size int, was, wanted []api.Record, step int) []byte {
	t.Helper()
	d, s := laid(size, was)
	x, _ := s.Begin()
	for _, r := range was {
		x.Delete(r.Table, r.Key)
	}
	for _, r := range wanted {
		x.Put(r.Table, r.Key, r.Value)
	}
	isCode(t, "Arm", d.Arm(step, api.Loss{Torn: -1}), 0)
	isCode(t, "Commit", api.Code(x.Commit()), 80)
	return d.Image()
}

// createsOver: Create over this image gives up at each of the disk's calls.
func (r *ruin) createsOver(name string, image []byte, lim api.Limits, draw []byte) {
	r.t.Helper()
	r.behind = newRecords(lim, draw)
	for step := 1; ; step++ {
		seen := map[string]int{}
		for i, loss := range losses(min(step, 7)) {
			what := fmt.Sprintf("Create over %s, step %d, loss %d", name, step, i)
			d := diskOf(r.t, image)
			isCode(r.t, "Arm", d.Arm(step, loss), 0)
			c, err := client.Create(d, lim, draw)
			if !d.Down() {
				r.isCreated(what, d, c, err)
				return
			}
			isCode(r.t, what, api.Code(err), 80)
			if f := form(err); c != nil || f != "Create 0: Load 0: Commit 0: 80" && f != "Create 0: Load 0: Open 0: 80" && f != "Create 0: Load 0: Clear 0: 80" && f != "Create 0: Load 0: 80" {
				r.t.Errorf("%s: %s", what, f)
			}
			if left := d.Image(); seen[string(left)] == 0 {
				seen[string(left)] = 1
				r.opens(what, left)
			}
		}
	}
}

func (r *ruin) isCreated(what string, d *sectors.Device, c *client.Client, err error) {
	r.t.Helper()
	if err != nil {
		r.t.Errorf("%s: %v", what, err)
		return
	}
	isLaidOut(r.t, what, d, c, r.behind)
	r.areBoth(what)
}

// P22.5: Create on a disk that gives up: what stood there, or the new client.
func TestGivesUpInCreate(t *testing.T) {
	old := newRecords(someLimits(), draw(1))
	more := with(old, rec(3, four(1), zeros(64)), rec(6, []byte("\x03bob\x00\x00\x00\x00"), zeros(900)))
	other := []api.Record{rec(9, []byte("b"), zeros(900))}
	scenes := []struct {
		name    string
		image   []byte
		was     []api.Record
		refused string
		depth   int
	}{
		{"zeros", zeros(14 * 512), nil, "Open 0: Open 0: 100", 2},
		{"a client", layout(14, more), more, "", 1},
		{"a client, whose log holds a commit", waiting(t, 14, old, more, 10), more, "", 1},
		{"a client, whose log has half a commit", waiting(t, 14, old, more, 6), old, "", 1},
		{"a store that is no client's", layout(14, other), nil, "Open 0: 123", 1},
		{"a store without records", layout(9, nil), nil, "Open 0: 123", 2},
	}
	for _, s := range scenes {
		t.Run(s.name, func(t *testing.T) {
			t.Parallel()
			r := &ruin{t: t, was: s.was, refused: s.refused, depth: s.depth}
			r.createsOver(s.name, s.image, wide(), draw(2))
		})
	}
}

// P22.1: Create over a client with the very same records: nothing is written.
func TestCreateAgain(t *testing.T) {
	b := created(t, 1, 14, someLimits())
	calls := b.d.Calls()
	isCreated(t, "again", b.d, someLimits(), draw(1000))
	if b.d.Calls() != calls {
		t.Errorf("%d changing calls of the disk", b.d.Calls()-calls)
	}
}

// P22.5: Open of a disk whose log holds a commit, or half of one, gives up at each of the disk's calls, several times over.
func TestGivesUpInOpen(t *testing.T) {
	old := newRecords(someLimits(), draw(1))
	more := with(old, rec(3, four(1), zeros(64)), rec(6, []byte("\x03bob\x00\x00\x00\x00"), zeros(900)))
	for step := 1; step <= 26; step++ {
		t.Run(fmt.Sprint(step), func(t *testing.T) {
			t.Parallel()
			r := &ruin{t: t, was: old, behind: more, depth: 2}
			r.opens(fmt.Sprintf("a commit that gave up at step %d", step), waiting(t, 13, old, more, step))
			if which := map[bool]int{true: 1}[step > 9]; r.found[which] != 1 {
				t.Errorf("P22.5: step %d: the records of %d", step, 1-which)
			}
		})
	}
}
