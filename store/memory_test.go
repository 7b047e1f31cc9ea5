package store_test

import (
	"bytes"
	"testing"

	"lethe/api"
	"lethe/store"
)

// spoil: all bytes of a list's keys and values are turned, spare room too, and more is appended to them; then the list itself is overwritten.
func spoil(list []api.Record) {
	for i := range whole(list) {
		r := &whole(list)[i]
		spoilBytes(r.Key)
		spoilBytes(r.Value)
		*r = rec(7, "spoilt", "spoilt")
	}
}

func spoilBytes(b []byte) {
	for i := range whole(b) {
		whole(b)[i] ^= 0xff
	}
	_ = append(b, "behind"...)
}

// roomyList: the same records, each key and value with room behind it, and the list too.
func roomyList(list []api.Record) []api.Record {
	all := make([]api.Record, 0, len(list)+2)
	for _, r := range list {
		all = append(all, api.Record{Table: r.Table, Key: roomy(r.Key), Value: roomy(r.Value)})
	}
	whole(all)[len(list)] = rec(5, "behind", "the list")
	whole(all)[len(list)+1] = rec(6, "behind", "the list")
	return all
}

// isUntouched: the list is the same, and so is all spare room.
func isUntouched(t *testing.T, what string, list, want []api.Record) {
	t.Helper()
	if !sameList(list, want) || !sameList(whole(list)[len(list):], recs(rec(5, "behind", "the list"), rec(6, "behind", "the list"))) {
		t.Errorf("%s: the list, or what lies behind it, is another one", what)
	}
	for i, r := range list {
		if !bytes.Equal(whole(r.Key), whole(roomy(want[i].Key))) || !bytes.Equal(whole(r.Value), whole(roomy(want[i].Value))) {
			t.Errorf("%s: the room behind a key or a value is another one", what)
		}
	}
}

// P12.1: Load changes nothing of its list and keeps nothing of it, whatever it answers.
func TestLoadKeepsNothing(t *testing.T) {
	want := someRecords()
	list := roomyList(want)
	d := zeroDisk(t, 41)
	s, err := store.Load(d, list)
	if err != nil {
		t.Fatal(err)
	}
	isUntouched(t, "taken", list, want)
	_, err = store.Load(zeroDisk(t, 5), list)
	isFault(t, "full", err, "Load", 0, api.ErrFull)
	isUntouched(t, "full", list, want)
	down := zeroDisk(t, 41)
	isCode(t, "Arm", down.Arm(9, api.Loss{}), api.OK)
	if _, err = store.Load(down, list); err == nil {
		t.Error("no error of a disk that gives up")
	}
	isUntouched(t, "given up", list, want)
	late := s.Scan(1, nil)
	spoil(list)
	isLaidOut(t, "written into", d, s, want)
	isScanned(t, "written into", late, wordsScan(want, 1, nil))
	committed(t, s, rec(1, "new", "x"))
	isLaidOut(t, "written into, committed", d, s, wordsPut(want, rec(1, "new", "x")))
}

// P12.1: records whose keys and values share one array, one with another's spare room, come through as they are.
func TestSharedArrays(t *testing.T) {
	array := []byte("abcdefghijklmnopqrstuvwxyz")
	list := recs(api.Record{Table: 1, Key: array[:3], Value: array[1:9]}, api.Record{Table: 1, Key: array[:4], Value: array[:3]}, api.Record{Table: 2, Key: array[2:5], Value: array[2:5]})
	want := recs(rec(1, "abc", "bcdefghi"), rec(1, "abcd", "abc"), rec(2, "cde", "cde"))
	d, s := loaded(t, 13, list...)
	isLaidOut(t, "Load", d, s, want)
	d, s = loaded(t, 13)
	committed(t, s, list...)
	isLaidOut(t, "Put", d, s, want)
	if string(array) != "abcdefghijklmnopqrstuvwxyz" {
		t.Errorf("the shared array is another one: %s", array)
	}
}

// P12.1: keys, values and prefixes that are handed in are not changed and not kept.
func TestHandedIn(t *testing.T) {
	want := recs(rec(1, "a", "1"), rec(1, "ab", "2"), rec(1, "b", "3"))
	d, s := loaded(t, 13)
	x := begun(t, s)
	ask := func(what string, b []byte, do func(b []byte)) {
		t.Helper()
		in := roomy(b)
		do(in)
		if !bytes.Equal(whole(in), whole(roomy(b))) {
			t.Errorf("%s: what was handed in, or its room, is another one", what)
		}
		spoilBytes(in)
	}
	for _, r := range want {
		ask("Put's key", r.Key, func(key []byte) {
			ask("Put's value", r.Value, func(value []byte) { isCode(t, "Put", x.Put(1, key, value), api.OK) })
		})
		ask("Put's key again", r.Key, func(key []byte) {
			ask("Put's value again", r.Value, func(value []byte) { isCode(t, "Put", x.Put(1, key, value), api.OK) })
		})
	}
	var own, whose func(func(api.Record) bool)
	ask("the transaction's prefix", []byte("a"), func(b []byte) { own = x.Scan(1, b) })
	ask("its Get", []byte("ab"), func(b []byte) { x.Get(1, b) })
	ask("Delete", []byte("zz"), func(b []byte) { isCode(t, "Delete", x.Delete(1, b), api.ErrMissing) })
	isScanned(t, "the transaction's", own, want[:2])
	if err := x.Commit(); err != nil {
		t.Fatal(err)
	}
	ask("the store's prefix", []byte("a"), func(b []byte) { whose = s.Scan(1, b) })
	ask("its Get", []byte("ab"), func(b []byte) { s.Get(1, b) })
	isScanned(t, "the store's", whose, want[:2])
	isLaidOut(t, "written into", d, s, want)
}

// P12.1: what is handed out is new memory, spare room too: nobody sees what is written into it.
func TestHandedOut(t *testing.T) {
	want := someRecords()
	d, s := loaded(t, 41, want...)
	x := begun(t, s)
	isCode(t, "Put", x.Put(9, []byte("own"), []byte("change")), api.OK)
	seen := wordsPut(want, rec(9, "own", "change"))
	whose, own := s.Scan(1, nil), x.Scan(1, nil)
	other := s.All()
	spoil(s.All())
	spoil(gathered(whose))
	spoil(gathered(own))
	spoil(gathered(x.Scan(9, nil)))
	for _, r := range seen {
		v, _ := x.Get(r.Table, r.Key)
		w, _ := x.Get(r.Table, r.Key)
		spoilBytes(v)
		if !bytes.Equal(w, r.Value) {
			t.Errorf("two answers share memory")
		}
		v, _ = s.Get(r.Table, r.Key)
		spoilBytes(v)
	}
	for r := range whose {
		spoilBytes(r.Key)
		spoilBytes(r.Value)
	}
	if !sameList(other, want) {
		t.Errorf("two answers share memory")
	}
	isScanned(t, "the store's", whose, wordsScan(want, 1, nil))
	isScanned(t, "the transaction's", own, wordsScan(want, 1, nil))
	isLaidOut(t, "written into", d, s, want)
	if err := x.Commit(); err != nil {
		t.Fatal(err)
	}
	spoil(s.All())
	isLaidOut(t, "written into, committed", d, s, seen)
	s = opened(t, d)
	spoil(s.All())
	isLaidOut(t, "written into, opened", d, s, seen)
}

// P12.1: each key and value that All hands out lies in memory of its own: what is appended to one is not seen in another.
func TestAllApart(t *testing.T) {
	want := someRecords()
	d, _ := loaded(t, 41, want...)
	for _, list := range [][]api.Record{opened(t, d).All(), gathered(opened(t, d).Scan(1, nil))} {
		for i := range list {
			_ = append(list[i].Key, letters(2000)...)
			_ = append(list[i].Value, letters(2000)...)
			for k := range whole(list[i].Key)[len(list[i].Key):] {
				whole(list[i].Key)[len(list[i].Key)+k] = '!'
			}
			for k := range whole(list[i].Value)[len(list[i].Value):] {
				whole(list[i].Value)[len(list[i].Value)+k] = '!'
			}
		}
		if len(list) == len(want) && !sameList(list, want) || len(list) != len(want) && !sameList(list, wordsScan(want, 1, nil)) {
			t.Errorf("keys and values share room: %s", told(list))
		}
	}
}

// P12.1, P12.5: a Fault is new each time; what a caller writes into one doesn't open an ended store again.
func TestFaultsAreNew(t *testing.T) {
	d, s, x, first := ended(t, 13, rec(1, "a", "x"))
	*first.(*api.Fault) = api.Fault{Call: "x", At: 5, Err: api.ErrTag}
	isCode(t, "Up", d.Up(), api.OK)
	v, e := s.Get(1, []byte("a"))
	isGot(t, "ended", v, e, "", api.ErrDown)
	if s.Err() != first {
		t.Errorf("Err is another one: %v", s.Err())
	}
	done := x.Commit()
	*done.(*api.Fault) = api.Fault{Call: "x", At: 5, Err: api.ErrTag}
	isOver(t, "over", x)
	_, err := store.Load(nil, nil)
	err.(*api.Fault).Err = api.ErrTag
	_, err = store.Load(nil, nil)
	isFault(t, "again", err, "Load", 0, api.ErrHandle)
}
