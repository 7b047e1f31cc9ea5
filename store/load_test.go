package store_test

import (
	"fmt"
	"math/rand"
	"testing"

	"lethe/api"
	"lethe/sectors"
	"lethe/store"
	"lethe/wal"
)

// isNotLoaded: Load answers this fault, and nothing beside it; the disk, if there is one, is untouched.
func isNotLoaded(t *testing.T, what string, d *sectors.Device, list []api.Record, at int, code api.Errno) {
	t.Helper()
	var before taken
	if d != nil {
		before = take(d)
	}
	s, err := store.Load(d, list)
	isFault(t, what+": Load", err, "Load", at, code)
	if s != nil {
		t.Errorf("%s: a store beside an error", what)
	}
	if d != nil {
		isAs(t, what, d, before)
	}
}

// somewhatUsed: a disk with a log that makes no sense, pending writes, homes and a rest: all that a Load which is refused must leave.
func somewhatUsed(t *testing.T, n int) *sectors.Device {
	d := diskWith(t, drawn(rand.New(rand.NewSource(1)), 512*n))
	isCode(t, "Write", d.Write(n-1, zeros(512)), api.OK)
	return d
}

// P12.2: what refuses a Load, in all sets: the fault that is named first is told.
func TestLoadFaultsInOrder(t *testing.T) {
	right := recs(rec(1, "a", "x"), rec(1, "b", "y"), rec(2, "a", "z"))
	for set := range 1 << 6 {
		has := func(k int) bool { return set>>k&1 == 1 }
		list := append([]api.Record{}, right...)
		code, at := api.OK, 0
		if has(5) { // no room for them, since each fills a page
			code = api.ErrFull
			for i := range list {
				list[i].Value = []byte(letters(900))
			}
		}
		if has(4) {
			list[0], list[1], code, at = list[1], list[0], api.ErrOrder, 1
		}
		if has(3) {
			list[2].Table, code, at = 16, api.ErrRecord, 2
		}
		n := 13
		if has(2) {
			n, code, at = 4, api.ErrRoom, 0
		}
		d := somewhatUsed(t, n)
		if has(1) {
			isCode(t, "Crash", d.Crash(api.Loss{}), api.OK)
			code, at = api.ErrDown, 0
		}
		if has(0) {
			d, code, at = nil, api.ErrHandle, 0
		}
		if code != api.OK {
			isNotLoaded(t, fmt.Sprintf("set %d", set), d, list, at, code)
		}
	}
}

// P12.2: each way to be no record, at each place, told ahead of every fault of the order.
func TestLoadNoRecord(t *testing.T) {
	d := somewhatUsed(t, 13)
	for k, r := range noRecords() {
		for at := range 4 {
			list := recs(rec(1, "d", "x"), rec(1, "c", "y"), rec(1, "c", "z"), rec(0, "a", "z"))
			list[at] = r
			isNotLoaded(t, fmt.Sprintf("no record %d", k), d, list, at, api.ErrRecord)
			list = append(list, rec(99, "", ""))
			isNotLoaded(t, fmt.Sprintf("no record %d, and another one", k), d, list, at, api.ErrRecord)
		}
	}
}

// P12.2: the first that doesn't come behind the one ahead of it.
func TestLoadOrder(t *testing.T) {
	d := somewhatUsed(t, 13)
	for i, c := range []struct {
		list []api.Record
		at   int
	}{
		{recs(rec(1, "a", "x"), rec(1, "a", "x")), 1},
		{recs(rec(1, "a", "x"), rec(1, "a", "y"), rec(1, "a", "z")), 1},
		{recs(rec(1, "b", ""), rec(1, "a", "")), 1},
		{recs(rec(2, "a", ""), rec(1, "b", "")), 1},
		{recs(rec(1, "ab", ""), rec(1, "a", "")), 1},
		{recs(rec(1, "\x80", ""), rec(1, "\x7f", "")), 1},
		{recs(rec(1, "a", ""), rec(1, "c", ""), rec(2, "a", ""), rec(1, "d", ""), rec(1, "b", "")), 3},
		{recs(rec(1, "a", ""), rec(2, "a", ""), rec(3, "a", ""), rec(3, "a", "")), 3},
	} {
		isNotLoaded(t, fmt.Sprintf("row %d", i), d, c.list, c.at, api.ErrOrder)
	}
}

// P12.2: room: u is at most p - 1, to the byte.
func TestLoadRoom(t *testing.T) {
	for _, c := range []struct {
		sectors int
		list    []api.Record
		fits    bool
	}{
		{5, nil, true}, {8, nil, true},
		{5, recs(rec(0, "a", "")), false}, {8, recs(rec(0, "a", "")), false},
		{9, recs(rec(0, "a", "")), true},
		{9, recs(sized("a", 504), sized("b", 504)), true},
		{9, recs(sized("a", 504), sized("b", 505)), false},
		{12, recs(sized("a", 504), sized("b", 505)), false},
		{13, recs(sized("a", 504), sized("b", 505)), true},
		{13, recs(sized("a", 905), sized("b", 103), sized("c", 905), sized("d", 103)), true},
		{13, recs(sized("a", 905), sized("b", 103), sized("c", 905), sized("d", 103), sized("e", 5)), false},
		{13, recs(sized("a", 600), sized("b", 600), sized("c", 600)), false},
	} {
		what := fmt.Sprintf("%d sectors, %s", c.sectors, told(c.list))
		if !c.fits {
			isNotLoaded(t, what, somewhatUsed(t, c.sectors), c.list, 0, api.ErrFull)
			continue
		}
		d := somewhatUsed(t, c.sectors)
		s, err := store.Load(d, c.list)
		if err != nil {
			t.Errorf("%s: %v", what, err)
			continue
		}
		isLaidOut(t, what, d, s, c.list)
	}
}

// P12.2: the greatest disks: 249 pages of records, and not one more; sectors behind the homes are wiped.
func TestLoadGreat(t *testing.T) {
	var list []api.Record
	for i := range 250 {
		list = append(list, sized(fmt.Sprintf("%03d", i), 907))
	}
	for _, n := range []int{1000, 1001, 1002, 4096} {
		fits := wordsRoom(n) - 1
		isNotLoaded(t, "one too many", somewhatUsed(t, n), list[:fits+1], 0, api.ErrFull)
		d := somewhatUsed(t, n)
		s, err := store.Load(d, list[:fits])
		if err != nil {
			t.Fatal(err)
		}
		isLaidOut(t, fmt.Sprintf("%d sectors", n), d, s, list[:fits])
		isLaidOut(t, fmt.Sprintf("%d sectors, opened", n), d, opened(t, d), list[:fits])
	}
}

// oddDisk: a disk of 15 sectors, with a log, homes and a rest of several kinds, and pending writes; the same each time.
func oddDisk(t *testing.T, log, homes, rest, pending int) *sectors.Device {
	r := rand.New(rand.NewSource(int64(log)))
	first := [][]byte{zeros(512), withLast(joined([]byte{5}, zeros(511)), 1), withLast(zeros(512), 2), drawn(r, 512), withLast(drawn(r, 512), 0)}[log]
	slots := drawn(r, 6*512)
	if log == 0 {
		slots = zeros(6 * 512)
	}
	list := recs(rec(1, "a", "z"), rec(1, "b", "y"), sized("c", 904))
	pages := [][]byte{joined(wordsPages(3, list)...), drawn(r, 6*512), zeros(6 * 512)}[homes]
	behind := [][]byte{zeros(1024), joined(zeros(512), drawn(r, 512)), drawn(r, 1024)}[rest]
	d := diskWith(t, joined(first, slots, pages, behind))
	for k := range pending {
		isCode(t, "Write", d.Write(2+6*k, drawn(r, 512)), api.OK)
	}
	return d
}

// P12.1, P12.2, P12.3: Load and Format do to disks of all kinds just what the words say, in their order: with the disk giving up at each changing call, and with several losses, they leave what the words' own calls leave, and tell whose call it was.
func TestOrderOfLoad(t *testing.T) {
	two := recs(rec(1, "a", "z"), rec(1, "b", "y"), sized("c", 904), sized("d", 900))
	for log := range 5 {
		for homes := range 3 {
			for rest := range 3 {
				for _, pending := range []int{0, 2} {
					disk := func() *sectors.Device { return oddDisk(t, log, homes, rest, pending) }
					what := fmt.Sprintf("log %d, homes %d, rest %d, %d pending", log, homes, rest, pending)
					isPlanned(t, what, "Load", disk, two, func(d *sectors.Device) (*store.Store, error) { return store.Load(d, two) })
					isPlanned(t, what, "Format", disk, nil, store.Format)
					if t.Failed() {
						return
					}
				}
			}
		}
	}
}

func isPlanned(t *testing.T, what, call string, disk func() *sectors.Device, list []api.Record, load func(*sectors.Device) (*store.Store, error)) {
	t.Helper()
	d, twin := disk(), disk()
	plan, stages := planLoad(disk(), list)
	s, err := load(d)
	if err != nil || s == nil {
		t.Errorf("%s: %s: %v", what, call, err)
		return
	}
	isCode(t, what, carriedOut(twin, plan), api.OK)
	isAs(t, what+": "+call, d, take(twin))
	isLaidOut(t, what+": "+call, d, s, list)
	ahead := len(disk().Cache())
	for step := 1; step <= len(plan); step++ {
		k := 0
		for stages[k].ends < step {
			k++
		}
		for _, loss := range someLosses(pendingAt(plan, step, ahead)) {
			d, twin := disk(), disk()
			where := fmt.Sprintf("%s: %s, step %d, keep %x, torn %d", what, call, step, loss.Keep[:min(1, len(loss.Keep))], loss.Torn)
			isCode(t, where, d.Arm(step, loss), api.OK)
			isCode(t, where, twin.Arm(step, loss), api.OK)
			s, err := load(d)
			if s != nil {
				t.Errorf("%s: a store beside an error", where)
			}
			if stages[k].lower == "" {
				isFault(t, where, err, call, 0, api.ErrDown)
			} else {
				isLower(t, where, err, call, stages[k].lower, api.ErrDown)
			}
			carriedOut(twin, plan)
			isAs(t, where, d, take(twin))
			if t.Failed() {
				return
			}
		}
	}
}

// P12.2: a Load of the very records that stand there changes nothing, and calls nothing of the disk.
func TestLoadOfTheSame(t *testing.T) {
	r := rand.New(rand.NewSource(2))
	for range 30 {
		list := drawnList(r, 40, 41)
		d, _ := loaded(t, 41, list...)
		before := take(d)
		s, err := store.Load(d, list)
		if err != nil {
			t.Fatal(err)
		}
		isAs(t, "the same", d, before)
		isLaidOut(t, "the same", d, s, list)
	}
}

// P12.2: a change that the log holds is done ahead of the Load, so that the pages that differ are counted from there.
func TestLoadFinishesTheLog(t *testing.T) {
	was, wanted := recs(rec(1, "a", "z")), recs(rec(1, "a", "y"))
	d := zeroDisk(t, 13)
	if _, err := store.Load(d, was); err != nil {
		t.Fatal(err)
	}
	commit := planCommit(3, was, wanted)
	carriedOut(d, commit[:5]) // the slots, the marker and its Flush are done: page 1 alone
	calls, open := d.Calls(), len(planOpen(d))
	s, err := store.Load(d, wanted)
	if err != nil {
		t.Fatal(err)
	}
	if n := d.Calls() - calls; n != open || open == 0 {
		t.Errorf("%d changing calls, want those %d of wal.Open alone", n, open)
	}
	isLaidOut(t, "finished", d, s, wanted)
}

// P12.3: Format is Load of no records, but for the Call.
func TestFormatFaults(t *testing.T) {
	s, err := store.Format(nil)
	isFault(t, "no disk", err, "Format", 0, api.ErrHandle)
	if s != nil {
		t.Errorf("a store beside an error")
	}
	small := somewhatUsed(t, 4)
	before := take(small)
	_, err = store.Format(small)
	isFault(t, "a small disk", err, "Format", 0, api.ErrRoom)
	isAs(t, "a small disk", small, before)
	d := somewhatUsed(t, 13)
	isCode(t, "Crash", d.Crash(api.Loss{}), api.OK)
	before = take(d)
	_, err = store.Format(d)
	isFault(t, "down", err, "Format", 0, api.ErrDown)
	isAs(t, "down", d, before)
	isCode(t, "Crash", small.Crash(api.Loss{}), api.OK)
	_, err = store.Format(small)
	isFault(t, "down and small", err, "Format", 0, api.ErrDown)
}

// P12.3: on disks of all sizes with room for a page; a disk that was formatted is a store, as Open says.
func TestFormatSizes(t *testing.T) {
	for n := 5; n <= 40; n++ {
		d := somewhatUsed(t, n)
		s, err := store.Format(d)
		if err != nil {
			t.Fatalf("%d sectors: %v", n, err)
		}
		isLaidOut(t, "formatted", d, s, nil)
		isLaidOut(t, "formatted, opened", d, opened(t, d), nil)
		if _, _, err := wal.Open(d); err != nil {
			t.Errorf("%d sectors: %v", n, err)
		}
	}
}
