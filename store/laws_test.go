package store_test

import (
	"bytes"
	"fmt"
	"iter"
	"math/rand"
	"testing"

	"lethe/api"
	"lethe/store"
)

// P12.14: what Get, Scan and All answer is what a plain list says, of the store and of a transaction, behind each step.
func TestPlainList(t *testing.T) {
	r := rand.New(rand.NewSource(7))
	for run := range 25 {
		d, s := loaded(t, 81)
		var list []api.Record
		for range 12 {
			x, seen := begun(t, s), list
			for range r.Intn(12) {
				seen = drawnStep(t, r, x, seen)
				isPlain(t, fmt.Sprintf("run %d, the transaction's", run), r, seen, x.Get, x.Scan)
				isPlain(t, fmt.Sprintf("run %d, the store's", run), r, list, s.Get, s.Scan)
			}
			if r.Intn(3) > 0 {
				if err := x.Commit(); err != nil {
					t.Fatalf("run %d: %v", run, err)
				}
				list = seen
			} else {
				isCode(t, "Abort", x.Abort(), api.OK)
			}
			isPlain(t, fmt.Sprintf("run %d, behind it", run), r, list, s.Get, s.Scan)
			isLaidOut(t, fmt.Sprintf("run %d", run), d, s, list)
		}
	}
}

// isPlain: a drawn place, one that is there, and stretches that begin like it.
func isPlain(t *testing.T, what string, r *rand.Rand, list []api.Record, get func(int, []byte) ([]byte, api.Errno), scan func(int, []byte) iter.Seq[api.Record]) {
	t.Helper()
	asked := recs(drawnRecord(r))
	if len(list) > 0 {
		asked = append(asked, list[r.Intn(len(list))])
	}
	for _, a := range asked {
		v, e := get(a.Table, a.Key)
		want, code := wordsGet(list, a.Table, a.Key)
		isGot(t, what, v, e, want, code)
		prefix := a.Key[:r.Intn(len(a.Key)+1)]
		isScanned(t, what, scan(a.Table, prefix), wordsScan(list, a.Table, prefix))
	}
}

// P12.12: however records came about, the image is one and the same: that of Load of All, on a new disk and on a used one.
func TestOneImage(t *testing.T) {
	r := rand.New(rand.NewSource(8))
	for run := range 40 {
		n := 9 + r.Intn(50)
		list := drawnList(r, 25, n)
		d, s := loaded(t, n, list...)
		image := d.Image()
		one, byOne := loaded(t, n)
		for _, k := range r.Perm(len(list)) { // each in a transaction of its own, in any order
			committed(t, byOne, list[k])
		}
		isImage(t, fmt.Sprintf("run %d, one by one", run), one.Image(), image)
		back, detour := loaded(t, n, drawnList(r, 25, n)...)
		x := changed(t, detour, detour.All(), s.All())
		if err := x.Commit(); err != nil {
			t.Fatal(err)
		}
		isImage(t, fmt.Sprintf("run %d, from others", run), back.Image(), image)
		used := somewhatUsed(t, n)
		if _, err := store.Load(used, s.All()); err != nil {
			t.Fatal(err)
		}
		isImage(t, fmt.Sprintf("run %d, on a used disk", run), used.Image(), image)
		if !bytes.Equal(twinOf(t, d).Image(), wordsLayout(n, list)) {
			t.Errorf("run %d: not the layout", run)
		}
	}
}

// P12.12: what was deleted or changed stands nowhere on the disk.
func TestNothingOfTheDead(t *testing.T) {
	secret := []byte("a secret that is to be forgotten")
	d, s := loaded(t, 23, rec(1, "a", "kept"))
	committed(t, s, api.Record{Table: 2, Key: []byte("b"), Value: secret}, rec(2, "c", letters(900)), api.Record{Table: 3, Key: secret, Value: nil})
	if !bytes.Contains(d.Image(), secret) {
		t.Fatal("it was never there")
	}
	x := begun(t, s)
	isCode(t, "Put", x.Put(2, []byte("b"), []byte("other")), api.OK)
	isCode(t, "Delete", x.Delete(3, secret), api.OK)
	if err := x.Commit(); err != nil {
		t.Fatal(err)
	}
	if bytes.Contains(d.Image(), secret) || len(d.Cache()) != 0 {
		t.Error("what is dead stands on the disk")
	}
	if _, err := store.Format(d); err != nil || bytes.Contains(d.Image(), []byte("kept")) {
		t.Errorf("what was there ahead of Format stands on the disk (%v)", err)
	}
}

// P12.12: calls that change nothing leave the disk alone, of the store and of its transactions.
func TestCallsThatChangeNothing(t *testing.T) {
	list := someRecords()
	d, s := loaded(t, 41, list...)
	before := take(d)
	x := begun(t, s)
	for k, call := range []func(){
		func() { s.Get(1, []byte("a")) }, func() { gathered(s.Scan(1, nil)) }, func() { s.All() }, func() { s.Pages() }, func() { s.Err() }, func() { s.Begin() },
		func() { x.Get(1, []byte("a")) }, func() { gathered(x.Scan(1, nil)) }, func() { x.Put(1, []byte("n"), nil) }, func() { x.Put(99, nil, nil) },
		func() { x.Delete(1, []byte("n")) }, func() { x.Delete(1, []byte("n")) }, func() { x.Abort() }, func() { x.Commit() },
	} {
		call()
		isAs(t, fmt.Sprintf("call %d", k), d, before)
		isLaidOut(t, fmt.Sprintf("call %d", k), d, s, list)
	}
}

// P12.1: what is answered hangs on the records and what was done alone: the same runs twice give the same images.
func TestSameAgain(t *testing.T) {
	var first []byte
	for k := range 3 {
		r := rand.New(rand.NewSource(9))
		d, s := loaded(t, 41)
		var list []api.Record
		for range 30 {
			list, _ = drawnChange(t, r, d, s, list)
			if s.Err() != nil {
				isCode(t, "Up", d.Up(), api.OK)
				s = opened(t, d)
				list = s.All()
			}
			isCode(t, "Arm", d.Arm(0, api.Loss{}), api.OK)
			loaded(t, 5+r.Intn(9))
		}
		if k == 0 {
			first = d.Image()
		}
		isImage(t, "the same again", d.Image(), first)
	}
}
