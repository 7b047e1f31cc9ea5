package store_test

import (
	"testing"

	"lethe/api"
	"lethe/store"
)

// The chapter's worked examples, line by line, on one disk of 13 sectors.
func TestWorkedExamples(t *testing.T) {
	d := zeroDisk(t, 13)
	_, err := store.Open(d)
	isFault(t, "Open of zeros", err, "Open", 0, api.ErrMark)
	s, err := store.Format(d)
	if err != nil {
		t.Fatal(err)
	}
	isImage(t, "Format", d.Image(), joined(zeros(7*512), wordsHead(3, 0, 0), zeros(2048)))
	v, e := s.Get(1, []byte("a"))
	isGot(t, "none", v, e, "", api.ErrMissing)
	x := begun(t, s)
	if y, e := s.Begin(); y != nil || e != api.ErrBusy {
		t.Errorf("Begin, Begin: error %d", e)
	}
	isCode(t, "Put, table 0", x.Put(0, []byte("a"), nil), api.OK)
	isCode(t, "Delete of it", x.Delete(0, []byte("a")), api.OK)
	isCode(t, "Put, table 16", x.Put(16, []byte("a"), nil), api.ErrRecord)
	isCode(t, "Put, no key", x.Put(1, nil, nil), api.ErrRecord)
	for _, r := range recs(rec(2, "b", "x"), rec(1, "b", "y"), rec(1, "a", "z")) {
		isCode(t, "Put", x.Put(r.Table, r.Key, r.Value), api.OK)
	}
	v, e = s.Get(1, []byte("a"))
	isGot(t, "the store's", v, e, "", api.ErrMissing)
	v, e = x.Get(1, []byte("a"))
	isGot(t, "the transaction's", v, e, "z", api.OK)
	isScanned(t, "of the transaction", x.Scan(1, nil), recs(rec(1, "a", "z"), rec(1, "b", "y")))
	was := d.Calls()
	if err := x.Commit(); err != nil {
		t.Fatal(err)
	}
	if n := d.Calls() - was; n != 6*2+8 {
		t.Errorf("pages 0 and 1 are written: %d changing calls", n)
	}
	three := recs(rec(1, "a", "z"), rec(1, "b", "y"), rec(2, "b", "x"))
	isLaidOut(t, "Commit", d, s, three)
	isPages(t, "Commit", s, 3, 1)
	isFault(t, "Commit again", x.Commit(), "Commit", 0, api.ErrDone)
	isCode(t, "Put behind Commit", x.Put(1, []byte("c"), nil), api.ErrDone)
	isCode(t, "Abort behind Commit", x.Abort(), api.ErrDone)
	before := take(d)
	committed(t, s, rec(1, "b", "y"))
	isAs(t, "the same again", d, before)
	x = begun(t, s)
	for _, key := range []string{"c", "d", "e"} {
		isCode(t, "Put", x.Put(1, []byte(key), []byte(letters(600))), api.OK)
	}
	isFault(t, "three of 600", x.Commit(), "Commit", 0, api.ErrFull)
	isAs(t, "three of 600", d, before)
	isLaidOut(t, "three of 600", d, s, three)
	x = begun(t, s)
	isCode(t, "Delete", x.Delete(1, []byte("b")), api.OK)
	isCode(t, "Delete again", x.Delete(1, []byte("b")), api.ErrMissing)
	if err := x.Commit(); err != nil {
		t.Fatal(err)
	}
	left := recs(rec(1, "a", "z"), rec(2, "b", "x"))
	isLaidOut(t, "Delete", d, s, left)
	isCode(t, "Arm", d.Arm(1, api.Loss{Torn: -1}), api.OK)
	x = begun(t, s)
	isCode(t, "Put", x.Put(1, []byte("q"), nil), api.OK)
	err = x.Commit()
	isLower(t, "the disk gives up", err, "Commit", "Commit", api.ErrDown)
	v, e = s.Get(1, []byte("a"))
	isGot(t, "ended", v, e, "", api.ErrDown)
	isAll(t, "ended", s, nil)
	isCode(t, "Up", d.Up(), api.OK)
	isLaidOut(t, "opened again", d, opened(t, d), left)
}
