package keyring_test

import (
	"testing"

	"lethe/api"
	"lethe/keyring"
	"lethe/sectors"
	"lethe/store"
)

func callNames(i int) string {
	return []string{"Limits", "Identity", "Publish", "Find", "Use", "Numbers"}[i]
}

// all: every call's error; where one has another answer beside it, that is noted as -1.
func all(x *store.Tx, number uint32, draws ...[]byte) [6]api.Errno {
	var codes [6]api.Errno
	note := func(i int, e api.Errno, zero bool) {
		codes[i] = e
		if e != api.OK && !zero {
			codes[i] = -1
		}
	}
	l, e := keyring.Limits(x)
	note(0, e, l == api.Limits{})
	p, e := keyring.Identity(x)
	note(1, e, p == api.Pair{})
	o, e := keyring.Publish(x, draws...)
	note(2, e, len(o) == 0)
	p, e = keyring.Find(x, number)
	note(3, e, p == api.Pair{})
	p, e = keyring.Use(x, number)
	note(4, e, p == api.Pair{})
	n, e := keyring.Numbers(x)
	note(5, e, len(n) == 0)
	return codes
}

// isRefused: every call answers that error, whatever else it is handed.
func isRefused(t *testing.T, what string, x *store.Tx, want api.Errno) {
	t.Helper()
	for _, number := range []uint32{0, 1, 9, 1<<32 - 1} {
		for _, some := range [][][]byte{nil, {draw(1)}, {nil}, {steps(1, 31)}, {draw(1), steps(1, 33)}, draws(1, 70)} {
			for i, e := range all(x, number, some...) {
				isCode(t, "P19.1: "+what+": "+callNames(i), e, want)
			}
		}
	}
}

// stores: a client's, one without any record, and one whose records are all wrong: there every other error applies too.
func stores() map[string][]api.Record {
	right, _ := wordsRecords(someLimits(), steps(0, 32))
	return map[string][]api.Record{
		"right": wordsPut(right, prekey(1, wordsPairBytes(wordsPair(draw(1))))),
		"empty": nil,
		"wrong": recs(rec(1, one(), zeros(3)), rec(2, one(), zeros(3)), rec(3, one(), zeros(3)), prekey(1, zeros(3)), rec(7, one(), zeros(3))),
	}
}

// P19.1: ErrHandle goes ahead of everything.
func TestNil(t *testing.T) {
	isRefused(t, "nil", nil, 3)
}

// P19.1: a transaction that is done, given up, refused, or met a disk that gave up: ErrDone ahead of everything, beside an open one too.
func TestDone(t *testing.T) {
	for name, list := range stores() {
		b := laidOut(t, list)
		first := b.x
		b.abort()
		isRefused(t, name+", given up", first, 121)
		second := b.x
		b.commit()
		isRefused(t, name+", done", second, 121)
		third := b.x
		b.put(rec(9, one(), steps(1, 3)))
		b.commit()
		isRefused(t, name+", done with a change", third, 121)
		isRefused(t, name+", given up long ago", first, 121)
		b.isSeen(name + ", beside the open one")
		last := b.x
		isCode(t, "Arm", b.d.Arm(1, api.Loss{Torn: -1}), api.OK)
		isCode(t, "Put", last.Put(9, one(), steps(2, 3)), api.OK)
		isCode(t, "Commit", api.Code(last.Commit()), api.ErrDown)
		isRefused(t, name+", the disk has given up", last, 121)
	}
}

// P19.1: a transaction whose Commit had no room is not open either.
func TestDoneFull(t *testing.T) {
	d, _ := sectors.New(9)
	list, _ := wordsRecords(someLimits(), steps(0, 32))
	s, err := store.Load(d, list)
	if err != nil {
		t.Fatal(err)
	}
	x, _ := s.Begin()
	isCode(t, "Put", x.Put(8, one(), zeros(900)), api.OK)
	isCode(t, "Put", x.Put(9, one(), zeros(900)), api.OK)
	isCode(t, "Commit", api.Code(x.Commit()), api.ErrFull)
	isRefused(t, "full", x, 121)
	if !sameList(s.All(), list) {
		t.Errorf("P19.1: the records are %s", told(s.All()))
	}
}

// P19.1: a call of this layer ends no transaction: what it has put is there behind Commit, and gone behind Abort.
func TestNeitherCommitNorAbort(t *testing.T) {
	b := created(t, someLimits())
	before := b.base
	b.isPublished("given up", draws(1, 2), 0, 1, 2)
	b.abort()
	if !sameList(b.s.All(), before) {
		t.Errorf("behind Abort: %s", told(b.s.All()))
	}
	b.isPublished("the same numbers again", draws(5, 2), 0, 1, 2)
	b.commit()
	if want, _, _ := wordsPublish(before, draws(5, 2)); !sameList(b.s.All(), want) {
		t.Errorf("behind Commit: %s", told(b.s.All()))
	}
	b.use("given up", 2)
	b.abort()
	b.use("given up ahead of this", 2)
	b.commit()
	b.reopen()
	b.areNumbers("opened anew", 1)
	b.isPublished("opened anew", draws(9, 2), 0, 3, 4)
}
