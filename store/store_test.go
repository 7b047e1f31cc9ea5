package store_test

import (
	"fmt"
	"math/rand"
	"testing"

	"lethe/api"
	"lethe/store"
)

// someRecords: tables at both ends, keys that begin with one another, values of no bytes and of the most.
func someRecords() []api.Record {
	return recs(rec(0, "a", "0"), rec(0, letters(64), ""), rec(1, "\x00", "nul"), rec(1, "a", "1"), rec(1, "a\x00", "2"), rec(1, "ab", "3"), rec(1, "abc", ""), rec(1, "b", "4"),
		rec(1, "\xff", "5"), rec(1, "\xff\xff", "6"), rec(2, "a", "7"), rec(7, "ab", letters(900)), rec(15, "z", "8"))
}

// P12.6: Get of what is there, and of what is not: any number, any key.
func TestGet(t *testing.T) {
	list := someRecords()
	_, s := loaded(t, 41, list...)
	for _, r := range list {
		v, e := s.Get(r.Table, r.Key)
		isGot(t, told(recs(r)), v, e, string(r.Value), api.OK)
	}
	for _, c := range []struct {
		table int
		key   string
	}{{0, "b"}, {0, ""}, {1, ""}, {1, "aa"}, {1, "a\x00\x00"}, {1, "abcd"}, {1, "\xfe"}, {1, "\xff\xff\xff"}, {2, "b"}, {3, "a"}, {15, "zz"}, {14, "z"}, {0, letters(63)}, {0, letters(65)}, {0, letters(70000)}} {
		v, e := s.Get(c.table, []byte(c.key))
		isGot(t, fmt.Sprintf("%d/%.9q", c.table, c.key), v, e, "", api.ErrMissing)
	}
	for _, table := range farNumbers() {
		v, e := s.Get(table, []byte("a"))
		isGot(t, fmt.Sprint(table), v, e, "", api.ErrMissing)
	}
	v, e := s.Get(1, nil)
	isGot(t, "no key", v, e, "", api.ErrMissing)
}

// P12.7: Scan by table and prefix, in order.
func TestScan(t *testing.T) {
	list := someRecords()
	_, s := loaded(t, 41, list...)
	x := begun(t, s)
	prefixes := []string{"", "\x00", "a", "a\x00", "aa", "ab", "abc", "abcd", "b", "c", "z", "\xfe", "\xff", "\xff\xff", "\xff\xff\xff", letters(1), letters(64), letters(65)}
	for _, table := range append(farNumbers(), 0, 1, 2, 3, 7, 8, 14, 15) {
		for _, prefix := range prefixes {
			what, want := fmt.Sprintf("%d/%.9q", table, prefix), wordsScan(list, table, []byte(prefix))
			isScanned(t, what, s.Scan(table, []byte(prefix)), want)
			isScanned(t, "transaction, "+what, x.Scan(table, []byte(prefix)), want)
		}
		isScanned(t, "nil", s.Scan(table, nil), wordsScan(list, table, nil))
	}
	_, none := loaded(t, 5)
	isScanned(t, "no records", none.Scan(0, nil), nil)
}

// P12.7: a loop may end early at each place, and go through it again from the start, also within itself.
func TestScanLoops(t *testing.T) {
	list := someRecords()
	_, s := loaded(t, 41, list...)
	x := begun(t, s)
	for _, all := range []func(func(api.Record) bool){s.Scan(1, nil), x.Scan(1, nil)} {
		want := wordsScan(list, 1, nil)
		for stop := range want {
			var got []api.Record
			for r := range all {
				got = append(got, r)
				if len(got) == stop+1 {
					break
				}
			}
			if !sameList(got, want[:stop+1]) {
				t.Errorf("ended early: %s", told(got))
			}
		}
		count := 0
		for range all {
			for range all {
				count++
			}
		}
		if count != len(want)*len(want) {
			t.Errorf("a loop within a loop: %d records", count)
		}
		isScanned(t, "again", all, want)
	}
}

// P12.7: what is committed later changes nothing in a sequence, nor do the store's end and a loop's own changes.
func TestScanStays(t *testing.T) {
	list := recs(rec(1, "a", "1"), rec(1, "ab", "2"), rec(1, "b", "3"), rec(2, "a", "4"))
	d, s := loaded(t, 21, list...)
	old := s.Scan(1, nil)
	x := begun(t, s)
	for r := range x.Scan(1, nil) {
		isCode(t, "Delete", x.Delete(r.Table, r.Key), api.OK)
		isCode(t, "Put", x.Put(1, append(r.Key, "+"...), []byte("new")), api.OK)
	}
	isScanned(t, "ahead of Commit", old, list[:3])
	own := x.Scan(1, nil)
	isCode(t, "Delete", x.Delete(1, []byte("a+")), api.OK)
	late := x.Scan(1, nil)
	if err := x.Commit(); err != nil {
		t.Fatal(err)
	}
	new := s.Scan(1, nil)
	committed(t, s, rec(1, "a", "x"), rec(1, "ab", "x"), rec(1, "ab+", "x"), rec(1, "b+", "x"), rec(1, "c", "x"))
	check := func(what string) {
		isScanned(t, what+", the store's first", old, list[:3])
		isScanned(t, what+", the transaction's", own, recs(rec(1, "a+", "new"), rec(1, "ab+", "new"), rec(1, "b+", "new")))
		isScanned(t, what+", its last", late, recs(rec(1, "ab+", "new"), rec(1, "b+", "new")))
		isScanned(t, what+", the store's second", new, recs(rec(1, "ab+", "new"), rec(1, "b+", "new")))
	}
	check("later")
	x = begun(t, s)
	isCode(t, "Put", x.Put(1, []byte("q"), nil), api.OK)
	isCode(t, "Arm", d.Arm(3, api.Loss{Torn: -1}), api.OK)
	if x.Commit() == nil {
		t.Fatal("a disk that gives up")
	}
	check("ended")
	isScanned(t, "ended", s.Scan(1, nil), nil)
	count := 0
	_, s = loaded(t, 21, list...)
	for range s.Scan(1, nil) {
		committed(t, s, rec(1, fmt.Sprintf("b%d", count), ""))
		count++
	}
	if count != 3 {
		t.Errorf("commits within a loop: %d records", count)
	}
}

// P12.8: All and Pages.
func TestAllAndPages(t *testing.T) {
	for _, c := range []struct {
		sectors, total, used int
		list                 []api.Record
	}{
		{5, 1, 0, nil}, {13, 3, 0, nil}, {16, 3, 0, nil}, {4096, 250, 0, nil},
		{13, 3, 1, recs(rec(0, "a", ""))}, {13, 3, 1, recs(sized("a", 504), sized("b", 504))}, {13, 3, 2, recs(sized("a", 504), sized("b", 505))},
		{41, 10, 2, someRecords()},
	} {
		d, s := loaded(t, c.sectors, c.list...)
		isPages(t, told(c.list), s, c.total, c.used)
		isLaidOut(t, told(c.list), d, s, c.list)
		isPages(t, "opened", opened(t, d), c.total, c.used)
	}
}

// P12.5, P12.6, P12.7, P12.8, P12.9: of an ended store; the disk's coming up again doesn't change that.
func TestEndedStore(t *testing.T) {
	list := recs(rec(1, "a", "x"), sized("b", 900), sized("c", 900))
	d, s, x, err := ended(t, 17, list...)
	isLower(t, "Commit", err, "Commit", "Commit", api.ErrDown)
	for _, up := range []bool{false, true} {
		if up {
			isCode(t, "Up", d.Up(), api.OK)
		}
		before := take(d)
		if s.Err() != err {
			t.Errorf("P12.5: Err: %v, want the very one that Commit answered", s.Err())
		}
		v, e := s.Get(1, []byte("a"))
		isGot(t, "ended", v, e, "", api.ErrDown)
		v, e = s.Get(99, nil)
		isGot(t, "ended, no such", v, e, "", api.ErrDown)
		isScanned(t, "ended", s.Scan(1, nil), nil)
		isAll(t, "ended", s, nil)
		isPages(t, "ended", s, 4, 2)
		if y, e := s.Begin(); y != nil || e != api.ErrDown {
			t.Errorf("Begin of an ended store: error %d", e)
		}
		isOver(t, "its transaction", x)
		isAs(t, "ended", d, before)
	}
	isLaidOut(t, "opened again", d, opened(t, d), list)
}

// P12.8: Pages of a store that a Commit has ended which would have used other pages.
func TestEndedPages(t *testing.T) {
	for _, step := range []int{1, 7, 26} {
		d, s := loaded(t, 17, sized("b", 900))
		x := begun(t, s)
		isCode(t, "Put", x.Put(1, []byte("c"), []byte(letters(900))), api.OK)
		isCode(t, "Put", x.Put(1, []byte("d"), []byte(letters(900))), api.OK)
		isCode(t, "Arm", d.Arm(step, api.Loss{Torn: -1}), api.OK)
		if x.Commit() == nil {
			t.Fatalf("step %d: no error", step)
		}
		isPages(t, fmt.Sprintf("step %d", step), s, 4, 1)
	}
}

// P12.5: nothing but such a Commit ends a store: not a disk that is down between two calls, nor a refusal.
func TestWhatDoesNotEnd(t *testing.T) {
	list := recs(rec(1, "a", "x"))
	d, s := loaded(t, 13, list...)
	isCode(t, "Crash", d.Crash(api.Loss{}), api.OK)
	v, e := s.Get(1, []byte("a"))
	isGot(t, "down", v, e, "x", api.OK)
	isAll(t, "down", s, list)
	isScanned(t, "down", s.Scan(1, nil), list)
	x := begun(t, s)
	isCode(t, "Put, down", x.Put(1, []byte("b"), nil), api.OK)
	isCode(t, "Delete, down", x.Delete(1, []byte("b")), api.OK)
	if err := x.Commit(); err != nil {
		t.Errorf("of no page the disk is not called: %v", err)
	}
	x = begun(t, s)
	isCode(t, "Put, down", x.Put(1, []byte("b"), []byte(letters(900))), api.OK)
	isCode(t, "Put, down", x.Put(1, []byte("c"), []byte(letters(900))), api.OK)
	isCode(t, "Put, down", x.Put(1, []byte("d"), []byte(letters(900))), api.OK)
	isFault(t, "full, and down", x.Commit(), "Commit", 0, api.ErrFull)
	isCode(t, "Up", d.Up(), api.OK)
	isLaidOut(t, "up again", d, s, list)
	committed(t, s, rec(1, "b", "y"))
	isLaidOut(t, "up again", d, s, recs(rec(1, "a", "x"), rec(1, "b", "y")))
	isCode(t, "Crash", d.Crash(api.Loss{}), api.OK)
	x = begun(t, s)
	isCode(t, "Put, down", x.Put(1, []byte("c"), nil), api.OK)
	err := x.Commit()
	isLower(t, "down", err, "Commit", "Commit", api.ErrDown)
	if s.Err() != err {
		t.Errorf("Err: %v", s.Err())
	}
}

// P12.1: stores know nothing of one another.
func TestStoresAreApart(t *testing.T) {
	r := rand.New(rand.NewSource(5))
	var disks []*store.Store
	var lists [][]api.Record
	for range 4 {
		list := drawnList(r, 20, 41)
		_, s := loaded(t, 41, list...)
		disks, lists = append(disks, s), append(lists, list)
	}
	txs := []*store.Tx{begun(t, disks[0]), begun(t, disks[1]), begun(t, disks[2])}
	isCode(t, "Put", txs[0].Put(1, []byte("only"), nil), api.OK)
	isCode(t, "Abort", txs[1].Abort(), api.OK)
	if _, e := txs[2].Get(1, []byte("only")); e != api.ErrMissing {
		t.Errorf("another store's change is seen: error %d", e)
	}
	if err := txs[0].Commit(); err != nil {
		t.Errorf("Commit: %v", err)
	}
	isAll(t, "changed", disks[0], wordsPut(lists[0], rec(1, "only", "")))
	for k := 1; k < 4; k++ {
		isAll(t, "left alone", disks[k], lists[k])
	}
}
