package outbox_test

import (
	"bytes"
	"testing"

	"lethe/api"
	"lethe/outbox"
)

// spoil: every byte is another one, spare room too.
func spoil(b []byte) {
	for i := range whole(b) {
		whole(b)[i] ^= 0xff
	}
	_ = append(b, "behind"...)
}

// P20.1: a packet that is handed in stays as it is, spare room too, whatever the answer, and is not kept.
func TestPacketsStay(t *testing.T) {
	b := laidOut(t, others()...)
	b.lay(stray("odd", "abc"))
	for _, c := range []struct {
		what, peer string
		serial     uint32
		size, most int
		code       api.Errno
	}{
		{"taken", "bob", 3, 50, 2, 0}, {"twice", "bob", 3, 50, 2, 151}, {"empty", "bob", 4, 0, 2, 0}, {"full", "bob", 5, 50, 2, 200},
		{"long", "bob", 5, 901, 9, 5}, {"the longest", "bob", 5, 900, 9, 0}, {"no name", "", 5, 50, 9, 212}, {"a wrong key", "odd", 5, 50, 9, 180},
	} {
		given := roomy(steps(9, c.size))
		isCode(t, "P20.1: "+c.what, b.put(c.what, c.peer, c.serial, given, c.most), c.code)
		if !bytes.Equal(whole(given), whole(roomy(steps(9, c.size)))) {
			t.Errorf("P20.1: %s: the packet, or what lies behind it, is another one", c.what)
		}
		spoil(given)
		b.isSeen(c.what + ", written into")
	}
	b.areListed("written into", "bob", mail(3, string(steps(9, 50))), mail(4, ""), mail(5, string(steps(9, 900))))
	b.commit()
	b.isSeen("committed")
	given := roomy(steps(9, 50))
	isCode(t, "nil", outbox.Put(nil, "bob", 9, given, 9), 3)
	b.x.Abort()
	isCode(t, "not open", outbox.Put(b.x, "bob", 9, given, 9), 121)
	if !bytes.Equal(whole(given), whole(roomy(steps(9, 50)))) {
		t.Errorf("P20.1: refused: the packet, or what lies behind it, is another one")
	}
}

// P20.1: packets that lie in one array, one in another's spare room, over each other.
func TestPacketsOfOneArray(t *testing.T) {
	array := steps(0x17, 100)
	b := laidOut(t)
	var want []api.Mail
	for i, part := range [][]byte{array[0:32], array[32:64], array[1:33], array[:0], array, array[99:]} {
		b.put("one array", "bob", uint32(i), part, 9)
		want = append(want, mail(uint32(i), string(part)))
	}
	if !bytes.Equal(array, steps(0x17, 100)) {
		t.Errorf("P20.1: the array is another one")
	}
	clear(array)
	b.areListed("one array", "bob", want...)
}

// P20.1: each packet that List hands out is memory of its own, spare room too, within one answer, and of two answers, and beside what the store holds.
func TestListIsNew(t *testing.T) {
	b := laidOut(t)
	var want []api.Mail
	for i, packet := range []string{"one", "", "two", "the third", "x"} {
		b.isPut("packets", "bob", uint32(i), packet, 9, 0)
		want = append(want, mail(uint32(i), packet))
	}
	b.commit()
	b.isPut("not committed", "bob", 9, "newer", 9, 0)
	want = append(want, mail(9, "newer"))
	first, _ := b.mails("first", "bob")
	second, _ := b.mails("second", "bob")
	got := append(append([]api.Mail{}, first...), second...)
	for i, m := range got {
		spoil(m.Bytes)
		for k := i + 1; k < len(got); k++ {
			if !bytes.Equal(got[k].Bytes, want[k%len(want)].Bytes) {
				t.Fatalf("P20.1: packets %d and %d share memory", i, k)
			}
		}
	}
	b.areListed("written into the packets", "bob", want...)
	first, _ = b.mails("first", "bob")
	second, _ = b.mails("second", "bob")
	for i := range whole(first) {
		whole(first)[i] = api.Mail{Peer: "nobody", Serial: 77}
	}
	_ = append(first, api.Mail{Serial: 78})
	if !sameMails(second, named("bob", want)) {
		t.Errorf("P20.1: two lists share memory")
	}
	b.areListed("written into the list", "bob", want...)
	b.isDropped("written into the list", "bob", 6)
	b.abort()
	b.areListed("given up", "bob", want[:5]...)
}

// TestListStays: what was handed out is not changed by what is done later.
func TestListStays(t *testing.T) {
	b := laidOut(t)
	b.isPut("one", "bob", 1, "one", 9, 0)
	b.isPut("two", "bob", 2, "two", 9, 0)
	list, _ := b.mails("ahead", "bob")
	b.isAcked("gone", "bob", 1, 0)
	b.isPut("again", "bob", 1, "eno", 9, 0)
	b.isPut("three", "bob", 0, "zero", 9, 0)
	b.isDropped("all", "bob", 3)
	b.commit()
	if want := named("bob", []api.Mail{mail(1, "one"), mail(2, "two")}); !sameMails(list, want) {
		t.Errorf("P20.1: %s, want %s", toldMails(list), toldMails(want))
	}
}

func named(peer string, list []api.Mail) []api.Mail {
	var all []api.Mail
	for _, m := range list {
		all = append(all, api.Mail{Peer: peer, Serial: m.Serial, Bytes: m.Bytes})
	}
	return all
}
