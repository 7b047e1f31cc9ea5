package wal_test

import (
	"bytes"
	"fmt"
	"math"
	"math/rand"
	"testing"

	"lethe/api"
	"lethe/sectors"
	"lethe/wal"
)

// behind: so many changing calls of the disk since the last time.
type behind struct {
	d    *sectors.Device
	seen int
}

func (b *behind) is(t *testing.T, what string, want int) {
	t.Helper()
	if n := b.d.Calls() - b.seen; n != want {
		t.Errorf("%s: %d changing calls, want %d", what, n, want)
	}
	b.seen = b.d.Calls()
}

// P9.2: the examples, the named edges, and numbers whose sums would wrap round.
func TestRoomAndNeed(t *testing.T) {
	rooms := map[int]int{-1: 0, 0: 0, 1: 0, 4: 0, 5: 1, 8: 1, 9: 2, 12: 2, 13: 3, 997: 249, 1000: 249, 1001: 250, 1004: 250, 1005: 250, 4096: 250,
		4097: 250, math.MaxInt: 250, math.MaxInt - 1: 250, math.MinInt: 0, math.MinInt + 1: 0, -4: 0, -5: 0}
	for s, want := range rooms {
		if got := wal.Room(s); got != want {
			t.Errorf("Room(%d) = %d, want %d", s, got, want)
		}
	}
	needs := map[int]int{-1: 0, 0: 0, 1: 5, 2: 9, 3: 13, 249: 997, 250: 1001, 251: 0, math.MaxInt: 0, math.MinInt: 0, 1 << 62: 0, 1<<62 + 1: 0}
	for p, want := range needs {
		if got := wal.Need(p); got != want {
			t.Errorf("Need(%d) = %d, want %d", p, got, want)
		}
	}
	for s := -10; s <= 4200; s++ {
		if got, want := wal.Room(s), wordsRoom(s); got != want {
			t.Errorf("Room(%d) = %d, want %d", s, got, want)
		}
	}
	for p := 1; p <= 250; p++ {
		if n := wal.Need(p); n != 4*p+1 || wal.Room(n) != p || wal.Room(n-1) != p-1 {
			t.Errorf("Need(%d) = %d, Rooms %d and %d", p, n, wal.Room(n), wal.Room(n-1))
		}
	}
}

// The worked examples, line by line, with the changing calls behind each.
func TestExamples(t *testing.T) {
	A, B := full('A'), full('B')
	d := zeroDisk(t, 13)
	calls := &behind{d: d}
	l := opened(t, d, false)
	calls.is(t, "Open of zeros", 0)
	if l.Pages() != 3 {
		t.Errorf("%d pages", l.Pages())
	}
	isFault(t, "1 twice", l.Commit(put(1, A), put(1, B)), "Commit", 1, api.ErrPages)
	isFault(t, "page 3", l.Commit(put(0, A), put(3, B)), "Commit", 1, api.ErrPlace)
	calls.is(t, "refused", 0)
	isFault(t, "2 and 0", l.Commit(put(2, B), put(0, A)), "Commit", 0, api.OK)
	calls.is(t, "2 and 0", 20)
	isRead(t, "2 and 0", l, 2, B)
	isRead(t, "2 and 0", l, 0, A)
	isNotRead(t, "2 and 0", l, 3, 3, api.ErrPlace)
	isOK(t, "Arm", d.Arm(5, api.Loss{Torn: -1}))
	isFault(t, "the marker's Flush", l.Commit(put(1, A)), "Commit", 0, api.ErrDown)
	calls.is(t, "the marker's Flush", 5)
	isNotRead(t, "ended", l, 1, 0, api.ErrDown)
	isFault(t, "ended", l.Commit(), "Commit", 0, api.ErrDown)
	calls.is(t, "ended", 0)

	isOK(t, "Up", d.Up())
	l = opened(t, d, false)
	calls.is(t, "zeros to 3 and 4", 3)
	isRead(t, "given up", l, 1, make([]byte, 1024))
	isOK(t, "Arm", d.Arm(5, api.Loss{Keep: []uint64{1}, Torn: -1}))
	isFault(t, "the marker is kept", l.Commit(put(1, A)), "Commit", 0, api.ErrDown)
	calls.is(t, "the marker is kept", 5)
	isOK(t, "Up", d.Up(), d.Arm(2, api.Loss{Torn: -1}))
	isNotOpened(t, "the second home's sector", d, api.ErrDown)
	calls.is(t, "the second home's sector", 2)
	isOK(t, "Up", d.Up())
	l = opened(t, d, true)
	calls.is(t, "done again", 9)
	isRead(t, "done again", l, 0, A)
	isRead(t, "done again", l, 1, A)
	isRead(t, "done again", l, 2, B)

	for _, last := range []byte{1, 2} {
		d := loaded(t, joined(sector(map[int]byte{511: last}), make([]byte, 12*512)))
		isNotOpened(t, "no sense", d, api.ErrLog)
		calls := &behind{d: d}
		calls.is(t, "no sense", 0)
		isFault(t, "no sense", wal.Clear(d), "Clear", 0, api.OK)
		calls.is(t, "Clear", 2)
		isAs(t, "Clear", d, taken{image: make([]byte, 13*512), calls: 2})
	}
}

// P9.3, P9.4, P9.1: ErrHandle, ErrDown, ErrRoom, in this order; nothing is done to the disk, not even its pending writes are flushed.
func TestNoDiskForALog(t *testing.T) {
	isNotOpened(t, "nil", nil, api.ErrHandle)
	isFault(t, "nil", wal.Clear(nil), "Clear", 0, api.ErrHandle)
	for n := 1; n <= 14; n++ {
		what := fmt.Sprintf("%d sectors", n)
		d := downDisk(t, n)
		before := take(d)
		isNotOpened(t, what+", down", d, api.ErrDown)
		isFault(t, what+", down", wal.Clear(d), "Clear", 0, api.ErrDown)
		isAs(t, what+", down", d, before)
		if n >= 5 {
			continue
		}
		d = loaded(t, bytes.Repeat([]byte{2}, 512*n))
		isOK(t, what, d.Write(n-1, full('a')[:512]))
		before = take(d)
		isNotOpened(t, what, d, api.ErrRoom)
		isFault(t, what, wal.Clear(d), "Clear", 0, api.ErrRoom)
		isAs(t, what, d, before)
	}
}

// markers: sectors 0 for a disk with room for p pages, of all kinds.
func markers(r *rand.Rand, p int) map[string][]byte {
	list := map[string][]byte{
		"zeros":               sector(nil),
		"no bit, standing":    sector(map[int]byte{511: 1}),
		"page 0":              sector(map[int]byte{0: 1, 511: 1}),
		"page 0, not":         sector(map[int]byte{0: 1}),
		"all bytes, not":      withLast(drawn(r, 512), 0),
		"all bytes, standing": withLast(drawn(r, 512), 1),
		"all bits, not":       withLast(joined(bytes.Repeat([]byte{255}, 32), make([]byte, 480)), 0),
		"all bits, standing":  withLast(joined(bytes.Repeat([]byte{255}, 32), make([]byte, 480)), 1),
	}
	for last := 2; last < 256; last++ {
		list[fmt.Sprintf("last byte %d", last)] = sector(map[int]byte{0: 1, 511: byte(last)})
	}
	for n := range 256 {
		bit := sector(map[int]byte{n / 8: 1 << (n % 8), 511: 1})
		list[fmt.Sprintf("bit %d", n)] = bit
		bit = joined(bit)
		bit[0] |= 1
		list[fmt.Sprintf("bits 0 and %d", n)] = bit
	}
	var exact [512]byte
	for n := range p {
		exact[n/8] |= 1 << (n % 8)
	}
	exact[511] = 1
	list["each page there is"] = exact[:]
	for i := 32; i <= 510; i++ {
		list[fmt.Sprintf("byte %d", i)] = sector(map[int]byte{0: 1, i: byte(1 + i%255), 511: 1})
		list[fmt.Sprintf("byte %d, not", i)] = sector(map[int]byte{0: 1, i: 1})
	}
	return list
}

// P9.3: a sector 0 that makes no sense, in each of the ways told, and those that just do; what is done is what the model says.
func TestSense(t *testing.T) {
	r := rand.New(rand.NewSource(1))
	for _, n := range []int{5, 9, 14, 33, 37, 1001, 1005} {
		p := wordsRoom(n)
		rest := drawn(r, 512*(n-1))
		for name, m := range markers(r, p) {
			if n > 40 && r.Intn(20) > 0 && name != "each page there is" {
				continue
			}
			what := fmt.Sprintf("%d sectors, %s", n, name)
			image := joined(m, rest)
			d, twin := loaded(t, image), loaded(t, image)
			plan, again, code := planOpen(twin)
			carriedOut(twin, plan)
			l, got, err := wal.Open(d)
			isFault(t, what, err, "Open", 0, code)
			if got != again || (l == nil) != (code != api.OK) {
				t.Errorf("%s: again %t, want %t; a log: %t", what, got, again, l != nil)
			}
			isAs(t, what, d, take(twin))

			d, twin = loaded(t, image), loaded(t, image)
			carriedOut(twin, planClear(twin))
			isFault(t, what, wal.Clear(d), "Clear", 0, api.OK)
			isAs(t, what+", Clear", d, take(twin))
			isClean(t, what, d)
			isCleared(t, what, d, image)
		}
	}
}

// isCleared: P9.4: the homes are as they were, and all else is zeros.
func isCleared(t *testing.T, what string, d *sectors.Device, image []byte) {
	t.Helper()
	p := wordsRoom(d.Sectors())
	log, end := 512*(2*p+1), 512*(4*p+1)
	want := joined(make([]byte, log), image[log:end], make([]byte, len(image)-end))
	if !bytes.Equal(d.Image(), want) {
		t.Errorf("%s: Clear has left something, or changed homes", what)
	}
}

// P9.1, P9.3, P9.4: pending writes are flushed ahead of all else, and it is what they say that counts; also where Open refuses then.
func TestPendingWrites(t *testing.T) {
	standing, senseless := sector(map[int]byte{0: 2, 511: 1}), sector(map[int]byte{511: 7})
	for _, c := range []struct {
		what          string
		image, then   []byte
		code          api.Errno
		again         bool
		opened, clear int
	}{
		{"no sense, pending", sector(nil), senseless, api.ErrLog, false, 1, 5},
		{"no sense, mended", senseless, sector(nil), api.OK, false, 3, 3},
		{"a marker, pending", sector(nil), standing, api.OK, true, 9, 6},
		{"a marker, taken away", standing, sector(nil), api.OK, false, 3, 3},
	} {
		slot := full('s')
		disk := func() *sectors.Device {
			d := loaded(t, joined(c.image, make([]byte, 12*512)))
			isOK(t, c.what, d.Write(0, c.then), d.Write(3, slot[:512]))
			return d
		}
		d := disk()
		calls := &behind{d: d, seen: d.Calls()}
		_, again, err := wal.Open(d)
		isFault(t, c.what, err, "Open", 0, c.code)
		calls.is(t, c.what+": Open", c.opened)
		if again != c.again || len(d.Cache()) != 0 {
			t.Errorf("%s: again %t, %d pending writes", c.what, again, len(d.Cache()))
		}
		if c.code == api.ErrLog && !bytes.Equal(d.Image()[:512], c.then) {
			t.Errorf("%s: another sector 0", c.what)
		}
		d = disk()
		calls = &behind{d: d, seen: d.Calls()}
		isFault(t, c.what, wal.Clear(d), "Clear", 0, api.OK)
		calls.is(t, c.what+": Clear", c.clear)
		isAs(t, c.what, d, taken{image: make([]byte, 13*512), calls: d.Calls()})
	}
	d := zeroDisk(t, 13)
	isOK(t, "a home", d.Write(8, full('h')[:512]))
	l := opened(t, d, false)
	if d.Calls() != 2 {
		t.Errorf("a home's half, pending: %d changing calls", d.Calls()-1)
	}
	isRead(t, "a home's half, pending", l, 0, joined(make([]byte, 512), full('h')[:512]))
}

// P9.5, P9.6: how many pages there are; Read of each, of -1, of the one behind the last, and of far numbers.
func TestRead(t *testing.T) {
	r := rand.New(rand.NewSource(2))
	for _, n := range []int{5, 6, 8, 9, 13, 16, 1001, 1004, 1005, 4096} {
		p := wordsRoom(n)
		image := someHomes(r, n)
		d := loaded(t, image)
		l := opened(t, d, false)
		if l.Pages() != p || l.Err() != nil {
			t.Errorf("%d sectors: %d pages, %v", n, l.Pages(), l.Err())
		}
		for k := range p {
			isRead(t, "each", l, k, image[512*(1+2*p+2*k):512*(3+2*p+2*k)])
		}
		for _, far := range append(farNumbers(), p, p+1, 250, 251, n) {
			isNotRead(t, fmt.Sprintf("%d sectors", n), l, far, far, api.ErrPlace)
		}
		isAs(t, "read", d, taken{image: image})
	}
}

// P9.6, P9.5: of a disk that is down a page that is not there is still named first, and does not end the log; one that is there ends it.
func TestReadDown(t *testing.T) {
	d := loaded(t, joined(make([]byte, 7*512), full('a'), full('b'), full('c')))
	l := opened(t, d, false)
	isOK(t, "Crash", d.Crash(api.Loss{}))
	isNotRead(t, "down", l, 3, 3, api.ErrPlace)
	isNotRead(t, "down", l, -1, -1, api.ErrPlace)
	isFault(t, "down", l.Commit(put(3, full('x'))), "Commit", 0, api.ErrPlace)
	isFault(t, "down", l.Commit(put(0, full('x')), put(1, nil)), "Commit", 1, api.ErrData)
	isFault(t, "down", l.Commit(put(0, full('x')), put(0, full('x'))), "Commit", 1, api.ErrPages)
	isFault(t, "down", l.Commit(), "Commit", 0, api.OK)
	if l.Err() != nil {
		t.Errorf("not met yet: %v", l.Err())
	}
	isOK(t, "Up", d.Up())
	isRead(t, "up again, and not met", l, 1, full('b'))
	isOK(t, "Crash", d.Crash(api.Loss{}))
	_, err := l.Read(1)
	isFault(t, "met", err, "Read", 0, api.ErrDown)
	isEnded(t, "Read", l, d, err)
}

// P9.5: an ended log: Err is the very error; Read and Commit answer ErrDown whatever they are given, and call nothing of the disk, up or down.
func isEnded(t *testing.T, what string, l *wal.Log, d *sectors.Device, err error) {
	t.Helper()
	for _, up := range []bool{false, true} {
		if up {
			isOK(t, what, d.Up(), d.Arm(1, api.Loss{}))
		}
		before := take(d)
		if l.Err() != err || err == nil {
			t.Errorf("%s: up %t: Err is %v, want %v", what, up, l.Err(), err)
		}
		for _, n := range append(farNumbers(), 0, 1, 2, 3) {
			isNotRead(t, what, l, n, 0, api.ErrDown)
			isFault(t, what, l.Commit(put(n, full('x'))), "Commit", 0, api.ErrDown)
			isFault(t, what, l.Commit(put(0, full('x')), put(n, nil)), "Commit", 0, api.ErrDown)
		}
		isFault(t, what, l.Commit(), "Commit", 0, api.ErrDown)
		isFault(t, what, l.Commit(nil...), "Commit", 0, api.ErrDown)
		if l.Err() != err || l.Pages() != wordsRoom(d.Sectors()) {
			t.Errorf("%s: up %t: Err is %v, %d pages", what, up, l.Err(), l.Pages())
		}
		isAs(t, what, d, before)
	}
	isOK(t, what, d.Arm(0, api.Loss{}))
}

// P9.5, P9.7: a log is ended at whichever changing call of a Commit the disk gives up, and by a disk that is down already.
func TestEnded(t *testing.T) {
	for step := 0; step <= 20; step++ {
		d := zeroDisk(t, 13)
		l := opened(t, d, false)
		if step == 0 {
			isOK(t, "Crash", d.Crash(api.Loss{}))
		} else {
			isOK(t, "Arm", d.Arm(step, api.Loss{}))
		}
		err := l.Commit(put(2, full('a')), put(0, full('b')))
		what := fmt.Sprintf("step %d", step)
		isFault(t, what, err, "Commit", 0, api.ErrDown)
		if d.Calls() != step {
			t.Errorf("%s: %d changing calls", what, d.Calls())
		}
		isEnded(t, what, l, d, err)
	}
}

// P9.7: the first page of the list that has a fault, and its first fault; nothing is done.
func TestCommitRefused(t *testing.T) {
	a := full('a')
	short, long := full('b')[:1023], append(full('c'), 0)
	for _, c := range []struct {
		what  string
		pages []api.PageWrite
		at    int
		code  api.Errno
	}{
		{"below 0", []api.PageWrite{put(-1, a)}, 0, api.ErrPlace},
		{"behind the last", []api.PageWrite{put(3, a)}, 0, api.ErrPlace},
		{"too many bytes", []api.PageWrite{put(0, long)}, 0, api.ErrData},
		{"too few bytes", []api.PageWrite{put(2, short)}, 0, api.ErrData},
		{"no bytes", []api.PageWrite{put(1, nil)}, 0, api.ErrData},
		{"half a page", []api.PageWrite{put(1, a), put(0, a[:512])}, 1, api.ErrData},
		{"two pages' bytes", []api.PageWrite{put(1, a), put(0, joined(a, a))}, 1, api.ErrData},
		{"twice", []api.PageWrite{put(1, a), put(1, a)}, 1, api.ErrPages},
		{"twice, not side by side", []api.PageWrite{put(2, a), put(0, a), put(1, a), put(2, a)}, 3, api.ErrPages},
		{"page 0 twice", []api.PageWrite{put(0, a), put(2, a), put(0, a)}, 2, api.ErrPages},
		{"three times", []api.PageWrite{put(1, a), put(1, a), put(1, a)}, 1, api.ErrPages},
		{"no place, no bytes", []api.PageWrite{put(3, nil)}, 0, api.ErrPlace},
		{"no place, twice", []api.PageWrite{put(3, a), put(3, a)}, 0, api.ErrPlace},
		{"no bytes, twice", []api.PageWrite{put(1, a), put(1, nil)}, 1, api.ErrData},
		{"no bytes, then twice", []api.PageWrite{put(1, nil), put(1, a)}, 0, api.ErrData},
		{"no bytes ahead of no place", []api.PageWrite{put(0, a), put(1, nil), put(-1, a)}, 1, api.ErrData},
		{"no place ahead of no bytes", []api.PageWrite{put(0, a), put(-7, a), put(1, nil)}, 1, api.ErrPlace},
		{"twice ahead of no place", []api.PageWrite{put(0, a), put(0, a), put(9, a)}, 1, api.ErrPages},
		{"no place ahead of twice", []api.PageWrite{put(0, a), put(9, a), put(0, a)}, 1, api.ErrPlace},
		{"as many as there are, and one", []api.PageWrite{put(2, a), put(1, a), put(0, a), put(1, a)}, 3, api.ErrPages},
	} {
		image := someHomes(rand.New(rand.NewSource(3)), 14)
		d := loaded(t, image)
		l := opened(t, d, false)
		isFault(t, c.what, l.Commit(c.pages...), "Commit", c.at, c.code)
		isAs(t, c.what, d, taken{image: image})
		if l.Err() != nil {
			t.Errorf("%s: refused, and ended: %v", c.what, l.Err())
		}
		isFault(t, c.what, l.Commit(put(1, a)), "Commit", 0, api.OK)
		isRead(t, c.what, l, 1, a)
	}
	l := opened(t, zeroDisk(t, 13), false)
	for _, n := range farNumbers() {
		isFault(t, "far", l.Commit(put(1, a), put(n, a)), "Commit", 1, api.ErrPlace)
	}
	l = opened(t, zeroDisk(t, 4096), false)
	isFault(t, "page 250", l.Commit(put(249, a), put(250, a)), "Commit", 1, api.ErrPlace)
}

// P9.7: of no pages nothing is done, even if the disk would give up.
func TestCommitNothing(t *testing.T) {
	d := zeroDisk(t, 13)
	l := opened(t, d, false)
	isOK(t, "Arm", d.Arm(1, api.Loss{}))
	isFault(t, "none", l.Commit(), "Commit", 0, api.OK)
	isFault(t, "nil", l.Commit(nil...), "Commit", 0, api.OK)
	isFault(t, "empty", l.Commit([]api.PageWrite{}...), "Commit", 0, api.OK)
	isAs(t, "none", d, taken{image: make([]byte, 13*512)})
}

// P9.7, P9.9: Commits of one page, of some and of all, in any order, of pages that are zeros too: 6 m + 3 Writes and 5 Flushes, and just these homes are others.
func TestCommit(t *testing.T) {
	r := rand.New(rand.NewSource(4))
	for _, n := range []int{5, 8, 9, 13, 15, 41, 1001, 1005, 4096} {
		p := wordsRoom(n)
		image := someHomes(r, n)
		d := loaded(t, image)
		l := opened(t, d, false)
		calls := &behind{d: d}
		for _, m := range []int{1, 1, 2, p / 2, p - 1, p} {
			var pages []api.PageWrite
			for _, k := range r.Perm(p)[:min(max(m, 0), p)] {
				b := drawn(r, 1024)
				if r.Intn(3) == 0 {
					b = make([]byte, 1024)
				}
				pages = append(pages, put(k, b))
				copy(image[512*(1+2*p+2*k):], b)
			}
			what := fmt.Sprintf("%d of %d pages", len(pages), p)
			isFault(t, what, l.Commit(pages...), "Commit", 0, api.OK)
			if m := len(pages); m > 0 {
				calls.is(t, what, 6*m+3+5)
			}
			isClean(t, what, d)
			isAs(t, what, d, taken{image: image, calls: d.Calls()})
			for _, w := range pages {
				isRead(t, what, l, w.Number, w.Bytes)
			}
		}
	}
}

// P9.10: a second Open does nothing; a log goes on behind a crash between two of its calls; writes beyond the homes leave it as it is.
func TestBetweenCalls(t *testing.T) {
	r := rand.New(rand.NewSource(5))
	image := joined(sector(map[int]byte{0: 5, 511: 1}), drawn(r, 15*512))
	d := loaded(t, image)
	opened(t, d, true)
	before := take(d)
	l := opened(t, d, false)
	isAs(t, "twice", d, before)
	for round := range 4 {
		page := drawn(r, 1024)
		isOK(t, "a crash in between", d.Crash(api.Loss{Keep: []uint64{uint64(round)}, Torn: 1, Offset: 9}), d.Up())
		isFault(t, "goes on", l.Commit(put(round%3, page)), "Commit", 0, api.OK)
		beyond := drawn(r, 512)
		isOK(t, "beyond", d.Write(13+round%3, beyond), d.Flush())
		isRead(t, "goes on", l, round%3, page)
		isOK(t, "another one", d.Crash(api.Loss{}), d.Up())
		isRead(t, "goes on", l, round%3, page)
		if i := 512 * (13 + round%3); !bytes.Equal(d.Image()[i:i+512], beyond) {
			t.Errorf("round %d: what is beyond the homes is another one", round)
		}
		isClean(t, "goes on", d)
		if l.Err() != nil {
			t.Errorf("round %d: %v", round, l.Err())
		}
		before := take(d)
		again := opened(t, d, false)
		isAs(t, "opened in between", d, before)
		l = again
	}
}

// P9.1: logs of two disks know nothing of one another; one that is ended leaves the other going.
func TestTwoLogs(t *testing.T) {
	d, e := zeroDisk(t, 9), zeroDisk(t, 13)
	l, m := opened(t, d, false), opened(t, e, false)
	isFault(t, "one", l.Commit(put(1, full('x'))), "Commit", 0, api.OK)
	isFault(t, "other", m.Commit(put(1, full('y'))), "Commit", 0, api.OK)
	isOK(t, "Crash", d.Crash(api.Loss{}))
	isNotRead(t, "one", l, 1, 0, api.ErrDown)
	isRead(t, "other", m, 1, full('y'))
	if l.Err() == nil || m.Err() != nil || l.Pages() != 2 || m.Pages() != 3 {
		t.Errorf("ended: %v and %v, %d and %d pages", l.Err(), m.Err(), l.Pages(), m.Pages())
	}
}
