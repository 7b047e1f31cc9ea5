package store_test

import (
	"fmt"
	"testing"

	"lethe/api"
	"lethe/sectors"
	"lethe/store"
)

// isOver: P12.10: of a transaction that is not open, whatever it is asked.
func isOver(t *testing.T, what string, x *store.Tx) {
	t.Helper()
	v, e := x.Get(1, []byte("a"))
	isGot(t, what, v, e, "", api.ErrDone)
	v, e = x.Get(-1, nil)
	isGot(t, what, v, e, "", api.ErrDone)
	isCode(t, what+": Put", x.Put(1, []byte("a"), nil), api.ErrDone)
	isCode(t, what+": Put of no record", x.Put(16, nil, nil), api.ErrDone)
	isCode(t, what+": Delete", x.Delete(1, []byte("a")), api.ErrDone)
	isCode(t, what+": Delete of no record", x.Delete(16, nil), api.ErrDone)
	isCode(t, what+": Abort", x.Abort(), api.ErrDone)
	isFault(t, what+": Commit", x.Commit(), "Commit", 0, api.ErrDone)
	isScanned(t, what, x.Scan(1, nil), nil)
}

// P12.9, P12.10: each way in which a transaction ends; then another one may begin, of which the first one knows nothing.
func TestTransactionsEnd(t *testing.T) {
	for _, c := range []struct {
		what string
		end  func(x *store.Tx) error
		code api.Errno
	}{
		{"Abort", func(x *store.Tx) error { isCode(t, "Abort", x.Abort(), api.OK); return nil }, api.OK},
		{"Commit", func(x *store.Tx) error { return x.Commit() }, api.OK},
		{"full", func(x *store.Tx) error {
			for _, key := range []string{"p", "q", "r"} {
				isCode(t, "Put", x.Put(3, []byte(key), []byte(letters(900))), api.OK)
			}
			return x.Commit()
		}, api.ErrFull},
	} {
		d, s := loaded(t, 13, rec(1, "a", "x"))
		x := begun(t, s)
		isCode(t, c.what, x.Put(1, []byte("b"), []byte("y")), api.OK)
		if y, e := s.Begin(); e != api.ErrBusy || y != nil {
			t.Errorf("%s: a second Begin: error %d", c.what, e)
		}
		if err := c.end(x); api.Code(err) != c.code {
			t.Errorf("%s: %v", c.what, err)
		}
		isOver(t, c.what, x)
		list := s.All()
		isLaidOut(t, c.what, d, s, list)
		next := begun(t, s)
		isCode(t, c.what, next.Put(1, []byte("c"), []byte("z")), api.OK)
		isOver(t, c.what+", another one is open", x)
		if y, e := s.Begin(); e != api.ErrBusy || y != nil {
			t.Errorf("%s: Begin beside the other one: error %d", c.what, e)
		}
		if err := next.Commit(); err != nil {
			t.Errorf("%s: the next one: %v", c.what, err)
		}
		isLaidOut(t, c.what+", the next one", d, s, wordsPut(list, rec(1, "c", "z")))
	}
}

// P12.9, P12.10: a transaction sees the store's records and its own changes; the store sees them behind Commit.
func TestWhatATransactionSees(t *testing.T) {
	list := recs(rec(1, "a", "1"), rec(1, "b", "2"), rec(2, "a", "3"))
	d, s := loaded(t, 13, list...)
	before := take(d)
	x := begun(t, s)
	seen := list
	step := func(what string, got, want api.Errno) {
		t.Helper()
		isCode(t, what, got, want)
		for _, table := range []int{0, 1, 2, 3} {
			isScanned(t, what, x.Scan(table, nil), wordsScan(seen, table, nil))
			isScanned(t, what+", the store's", s.Scan(table, nil), wordsScan(list, table, nil))
			for _, key := range []string{"a", "b", "c", "ab"} {
				v, e := x.Get(table, []byte(key))
				want, code := wordsGet(seen, table, []byte(key))
				isGot(t, what, v, e, want, code)
				v, e = s.Get(table, []byte(key))
				want, code = wordsGet(list, table, []byte(key))
				isGot(t, what+", the store's", v, e, want, code)
			}
		}
		isLaidOut(t, what, d, s, list)
		isAs(t, what, d, before)
	}
	step("at first", api.OK, api.OK)
	seen = wordsPut(seen, rec(1, "b", "other"))
	step("another value", x.Put(1, []byte("b"), []byte("other")), api.OK)
	seen = wordsPut(seen, rec(1, "b", ""))
	step("no value", x.Put(1, []byte("b"), nil), api.OK)
	seen = wordsPut(seen, rec(0, "ab", "first"))
	step("ahead of all", x.Put(0, []byte("ab"), []byte("first")), api.OK)
	seen = wordsPut(seen, rec(3, "c", "last"))
	step("behind all", x.Put(3, []byte("c"), []byte("last")), api.OK)
	seen = wordsDelete(seen, 1, []byte("a"))
	step("Delete", x.Delete(1, []byte("a")), api.OK)
	step("Delete again", x.Delete(1, []byte("a")), api.ErrMissing)
	seen = wordsPut(seen, rec(1, "a", "back"))
	step("Put back", x.Put(1, []byte("a"), []byte("back")), api.OK)
	step("Delete of what isn't there", x.Delete(1, []byte("ab")), api.ErrMissing)
	for _, r := range noRecords() {
		step("no record", x.Put(r.Table, r.Key, r.Value), api.ErrRecord)
		step("no record", x.Delete(r.Table, r.Key), wordsMissing(seen, r))
	}
	for _, table := range farNumbers() {
		step("far", x.Delete(table, []byte("a")), api.ErrMissing)
	}
	if err := x.Commit(); err != nil {
		t.Fatal(err)
	}
	isLaidOut(t, "Commit", d, s, seen)
}

func wordsMissing(list []api.Record, r api.Record) api.Errno {
	_, code := wordsGet(list, r.Table, r.Key)
	return code
}

// P12.10: the records at the bounds are taken, and come through.
func TestPutAtTheBounds(t *testing.T) {
	for _, r := range recs(rec(0, "\x00", ""), rec(15, letters(64), letters(900)), rec(15, "\xff", letters(900)), rec(0, letters(64), "")) {
		d, s := loaded(t, 9)
		committed(t, s, r)
		isLaidOut(t, told(recs(r)), d, s, recs(r))
		isLaidOut(t, told(recs(r))+", opened", d, opened(t, d), recs(r))
	}
}

// P12.10: behind Abort nothing has changed, and the disk was not called.
func TestAbort(t *testing.T) {
	list := someRecords()
	d, s := loaded(t, 41, list...)
	before := take(d)
	x := begun(t, s)
	for _, r := range list {
		isCode(t, "Delete", x.Delete(r.Table, r.Key), api.OK)
	}
	isCode(t, "Put", x.Put(4, []byte("new"), nil), api.OK)
	isCode(t, "Abort", x.Abort(), api.OK)
	isLaidOut(t, "Abort", d, s, list)
	isAs(t, "Abort", d, before)
	isCode(t, "Abort of nothing", begun(t, s).Abort(), api.OK)
}

// changed: a transaction that makes the store's list another one.
func changed(t *testing.T, s *store.Store, was, wanted []api.Record) *store.Tx {
	t.Helper()
	x := begun(t, s)
	for _, r := range was {
		isCode(t, "Delete", x.Delete(r.Table, r.Key), api.OK)
	}
	for k := range wanted {
		r := wanted[len(wanted)-1-k]
		isCode(t, "Put", x.Put(r.Table, r.Key, r.Value), api.OK)
	}
	return x
}

// commitRows: changes that touch no page, page 0 alone, one page, some, all; pages that grow, shrink and move.
func commitRows() []struct{ was, wanted []api.Record } {
	a, b, c, d := sized("a", 500), sized("b", 500), sized("c", 500), sized("d", 500)
	big := sized("b", 508)
	return []struct{ was, wanted []api.Record }{
		{nil, nil}, {recs(a), recs(a)}, {nil, recs(a)}, {recs(a), nil}, {recs(a), recs(b)},
		{recs(a, b), recs(a, big)}, {recs(a, b), recs(a, b, c)}, {recs(a, b, c), recs(a, b, c, d)}, {recs(a, b, c, d), recs(a, b, d)},
		{recs(a, b, c, d), recs(b, c, d)}, {recs(a, b, c, d), nil}, {nil, recs(a, b, c, d)}, {recs(a, big, c, d), recs(a, b, c, d)},
		{recs(a, b, c, d), recs(a, sized("b", 509), c, d)}, {recs(c), recs(a, b, c)},
		{recs(a, b, c, d), recs(a, b, c, rec(1, "d", string(make([]byte, 495))))},
	}
}

// P12.11: one wal.Commit of just the pages that differ, with the disk giving up at each changing call; a store that is ended then, or not.
func TestOrderOfCommit(t *testing.T) {
	for i, c := range commitRows() {
		for _, n := range []int{13, 17, 20, 45} {
			what := fmt.Sprintf("row %d, %d sectors", i, n)
			if len(wordsSplit(c.was)) > wordsRoom(n)-1 || len(wordsSplit(c.wanted)) > wordsRoom(n)-1 {
				continue
			}
			plan := planCommit(wordsRoom(n), c.was, c.wanted)
			for step := range len(plan) + 2 {
				all := []api.Loss{{Torn: -1}}
				if step > 0 && step <= len(plan) && n == 17 {
					all = losses(pendingAt(plan, step, 0))
				}
				for _, loss := range all {
					isCommitted(t, fmt.Sprintf("%s, step %d", what, step), n, c.was, c.wanted, plan, step, loss)
				}
			}
			if t.Failed() {
				return
			}
		}
	}
}

func isCommitted(t *testing.T, what string, n int, was, wanted []api.Record, plan []change, step int, loss api.Loss) {
	t.Helper()
	d, s := loaded(t, n, was...)
	twin := twinOf(t, d)
	calls := d.Calls()
	x := changed(t, s, was, wanted)
	isCode(t, what, d.Arm(step, loss), api.OK)
	isCode(t, what, twin.Arm(step, loss), api.OK)
	err := x.Commit()
	code := carriedOut(twin, plan)
	want := take(twin)
	want.calls += calls
	isAs(t, what, d, want)
	isOver(t, what, x)
	if code == api.OK {
		if err != nil {
			t.Errorf("%s: %v", what, err)
		}
		isLaidOut(t, what, d, s, wanted)
		return
	}
	isLower(t, what, err, "Commit", "Commit", code)
	if s.Err() != err {
		t.Errorf("%s: Err: %v", what, s.Err())
	}
	isAll(t, what, s, nil)
	isPages(t, what, s, wordsRoom(n), len(wordsSplit(was)))
}

// twinOf: a new disk with the same image.
func twinOf(t *testing.T, d *sectors.Device) *sectors.Device {
	t.Helper()
	return diskWith(t, d.Image())
}

// P12.11: ErrFull to the byte; nothing has changed, and the disk was not called.
func TestCommitRoom(t *testing.T) {
	for _, c := range []struct {
		sectors int
		list    []api.Record
		fits    bool
	}{
		{5, nil, true}, {5, recs(rec(0, "a", "")), false}, {8, recs(rec(0, "a", "")), false}, {9, recs(rec(0, "a", "")), true},
		{9, recs(sized("a", 504), sized("b", 504)), true}, {9, recs(sized("a", 504), sized("b", 505)), false},
		{13, recs(sized("a", 905), sized("b", 103), sized("c", 905), sized("d", 103)), true},
		{13, recs(sized("a", 905), sized("b", 103), sized("c", 905), sized("d", 103), sized("e", 5)), false},
		{13, recs(sized("a", 600), sized("b", 600), sized("c", 600)), false},
	} {
		what := fmt.Sprintf("%d sectors, %s", c.sectors, told(c.list))
		d, s := loaded(t, c.sectors)
		before := take(d)
		x := changed(t, s, nil, c.list)
		err := x.Commit()
		isOver(t, what, x)
		if c.fits {
			if err != nil {
				t.Errorf("%s: %v", what, err)
			}
			isLaidOut(t, what, d, s, c.list)
			continue
		}
		isFault(t, what, err, "Commit", 0, api.ErrFull)
		isLaidOut(t, what, d, s, nil)
		isAs(t, what, d, before)
	}
}

// P12.11: what counts is what is seen at Commit: a transaction may be too great in between.
func TestCommitAtTheEnd(t *testing.T) {
	d, s := loaded(t, 9, sized("a", 905))
	x := begun(t, s)
	for i := range 40 {
		isCode(t, "Put", x.Put(2, []byte{byte(i)}, []byte(letters(900))), api.OK)
	}
	for i := range 40 {
		isCode(t, "Delete", x.Delete(2, []byte{byte(i)}), api.OK)
	}
	isCode(t, "Put", x.Put(1, []byte("b"), []byte(letters(98))), api.OK)
	if err := x.Commit(); err != nil {
		t.Errorf("Commit: %v", err)
	}
	isLaidOut(t, "Commit", d, s, recs(sized("a", 905), sized("b", 103)))
}
