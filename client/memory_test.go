package client_test

import (
	"bytes"
	"fmt"
	"testing"

	"lethe/api"
)

// overwritten: every element is another one, spare room too.
func overwritten[T any](list []T, with T) {
	for i := range whole(list) {
		whole(list)[i] = with
	}
}

// rich: a client with two sessions, prekeys, skipped keys and packets.
func rich(t *testing.T) *bench {
	t.Helper()
	alice, bob := begun(t, wide())
	alice.sends("lost", "bob", "lost", "")
	alice.sends("lost", "bob", "lost", "")
	bob.receives("late", "alice", alice.sends("late", "bob", "late", ""), "", "late")
	bob.sends("a packet", "alice", "one", "")
	bob.sends("a packet", "alice", "two", "")
	carol := created(t, 3, 81, wide())
	bob.accepts("carol", "carol", carol.initiates("carol", "bob", bob.publishes("bob"), "hello", ""), "", "hello")
	bob.takes("prekeys", call{name: "Publish", draws: [][]byte{bob.draw(), bob.draw(), bob.draw()}})
	return bob
}

// Rule 2: what the asking calls hand out is written over, spare room too: nobody sees it, no other answer either.
func TestHandedOut(t *testing.T) {
	b := rich(t)
	answers := func() (all []string) {
		for _, x := range asks("alice") {
			all = append(all, x.madeBy(b.c).String())
		}
		return all
	}
	want := fmt.Sprint(answers())
	for range 2 {
		names, _ := b.c.Peers()
		numbers, _ := b.c.Prekeys()
		mails, _ := b.c.Replay("alice")
		records, _ := b.c.Records()
		if len(names) != 2 || len(numbers) != 3 || len(mails) != 2 || len(records) != 12 {
			t.Fatalf("%q, %d, %d packets, %d records", names, numbers, len(mails), len(records))
		}
		others, _ := b.c.Records()
		for _, m := range mails {
			spoil(m.Bytes)
		}
		for _, r := range records {
			spoil(r.Key)
			spoil(r.Value)
		}
		if !sameList(others, b.w.list) {
			t.Errorf("rule 2: two answers of Records share memory")
		}
		overwritten(names, "nobody")
		overwritten(numbers, 77)
		overwritten(mails, api.Mail{Serial: 77})
		overwritten(records, rec(15, []byte("x"), nil))
		if got := fmt.Sprint(answers()); got != want {
			t.Errorf("rule 2: what was written into an answer is seen:\n%s\nwant\n%s", got, want)
		}
	}
	isLaidOut(t, "written over", b.d, b.c, b.w.list)
}

// Rule 2: each changing call's answers share no memory with the client, with one another, or with what was handed in.
func TestHandedOutByChanges(t *testing.T) {
	b := rich(t)
	draws := [][]byte{b.draw(), b.draw()}
	bundles, err := b.c.Publish(draws...)
	isForm(t, "Publish", err, "nil")
	kept := [][]byte{bytes.Clone(bundles[0]), bytes.Clone(bundles[1])}
	more := append(bundles[0], 1, 2, 3)
	spoil(more)
	if !bytes.Equal(bundles[1], kept[1]) {
		t.Errorf("rule 2: two bundles share memory")
	}
	overwritten(bundles, nil)
	list := recordsOf(t, "Publish", b.c)
	isLaidOut(t, "Publish", b.d, b.c, list)

	_, packet, err := b.c.Send("alice", []byte("text"), nil)
	isForm(t, "Send", err, "nil")
	want := bytes.Clone(packet)
	list = recordsOf(t, "Send", b.c)
	spoil(packet)
	if mails, err := b.c.Replay("alice"); err != nil || !bytes.Equal(mails[2].Bytes, want) {
		t.Errorf("rule 2: Send hands out the bytes that Replay answers: %v", err)
	}
	isLaidOut(t, "Send", b.d, b.c, list)
}

// Rule 2: one list handed in as several arguments, and twice.
func TestHandedInTwice(t *testing.T) {
	alice, bob := created(t, 1, 81, wide()), created(t, 2, 81, wide())
	same := bob.draw()
	a := bob.takes("one draw twice", call{name: "Publish", draws: [][]byte{same, same}})
	if len(a.lists) != 2 || !bytes.Equal(a.lists[0][38:], a.lists[1][38:]) {
		t.Errorf("one draw twice: %x", a.lists)
	}
	x := roomy(alice.draw())
	want := bytes.Clone(whole(x))
	packet, err := alice.c.Initiate("bob", a.lists[1], x, x, x, x)
	isForm(t, "one list as four arguments", err, "nil")
	if !bytes.Equal(whole(x), want) {
		t.Errorf("rule 2: what was handed in has changed")
	}
	bob.accepts("one list", "alice", packet, string(x), string(x))
}

// P7: clients that came to the same records by other ways have the same image.
func TestSameRecordsSameImage(t *testing.T) {
	b := rich(t)
	image := b.d.Image()
	carol := created(t, 7, 81, wide())
	first := carol.initiates("a detour", "bob", b.publishes("a detour"), "hello", "")
	b.accepts("a detour", "dave", first, "", "hello")
	b.sends("a detour", "dave", string(zeros(512)), "")
	b.takes("a detour", call{name: "Forget", peer: "dave"})
	list := recordsOf(t, "a detour", b.c)
	other := over(t, 81, list)
	if !bytes.Equal(b.d.Image(), other.d.Image()) || bytes.Equal(b.d.Image(), image) {
		t.Errorf("P7: the same records have another image") // one prekey more was published than in the beginning
	}
}
