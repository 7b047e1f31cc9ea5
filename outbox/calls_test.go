package outbox_test

import (
	"bytes"
	"fmt"
	"math"
	"math/rand"
	"testing"

	"lethe/api"
)

func serials() []uint32 {
	return []uint32{0, 1, 2, 127, 128, 255, 256, 257, 65535, 1 << 16, 1<<16 + 1, 1<<24 - 1, 1 << 24, 0x01020304, 0x04030201, 1<<31 - 1, 1 << 31, 1<<32 - 2, 1<<32 - 1}
}

// P20.1: a packet's record, byte for byte.
func TestRecord(t *testing.T) {
	b := laidOut(t)
	b.isPut("a record", "bob", 0x01020304, "packet", 1, 0)
	list := b.seen()
	want := rec(6, []byte{3, 'b', 'o', 'b', 1, 2, 3, 4}, []byte("packet"))
	if !sameList(list, []api.Record{want}) {
		t.Errorf("P20.1: %s, want %s", told(list), told([]api.Record{want}))
	}
	b.take(want)
	b.lay(rec(6, []byte{16, 'n', 'n', 'n', 'n', 'n', 'n', 'n', 'n', 'n', 'n', 'n', 'n', 'n', 'n', 'n', 'n', 0xff, 0xfe, 0xfd, 0xfc}, nil))
	b.areListed("laid by hand", "nnnnnnnnnnnnnnnn", mail(0xfffefdfc, ""))
	b.isAcked("laid by hand", "nnnnnnnnnnnnnnnn", 0xfffefdfc, 0)
}

// P20.1, P20.2: serials of all sizes, put in any order, are listed by serial, each with its own packet.
func TestSerials(t *testing.T) {
	r := rand.New(rand.NewSource(20))
	all := serials()
	var want []api.Mail
	for _, s := range all {
		want = append(want, mail(s, fmt.Sprint("packet ", s)))
	}
	for range 12 {
		b := laidOut(t, others()...)
		for _, i := range r.Perm(len(all)) {
			b.isPut("any order", "bob", all[i], fmt.Sprint("packet ", all[i]), len(all), 0)
		}
		b.areListed("any order", "bob", want...)
		for _, i := range r.Perm(len(all)) {
			b.isPut("twice", "bob", all[i], "other", 99, 151)
		}
		b.areListed("twice", "bob", want...)
		for _, s := range []uint32{3, 258, 1 << 17, 1 << 30, 1<<32 - 3} {
			b.isAcked("not there", "bob", s, 201)
		}
		for _, i := range r.Perm(len(all)) {
			b.isAcked("any order", "bob", all[i], 0)
			b.isAcked("again", "bob", all[i], 201)
		}
		b.areListed("none", "bob")
	}
}

// P20.1, P20.2: packets of 0 to MaxValue bytes are taken as they are, longer ones are not.
func TestSizes(t *testing.T) {
	b := laidOut(t, others()...)
	sizes := []int{0, 1, 2, 3, 31, 255, 256, 512, 899, 900}
	var want []api.Mail
	for i, size := range sizes {
		packet := steps(byte(7*i), size)
		isCode(t, fmt.Sprintf("P20.1: %d bytes", size), b.put("a size", "bob", uint32(i), packet, len(sizes)), 0)
		want = append(want, mail(uint32(i), string(packet)))
	}
	b.areListed("sizes", "bob", want...)
	for _, size := range []int{901, 902, 1000, 1024, 65535, 65536, 65537, 1 << 20} {
		isCode(t, fmt.Sprintf("P20.1: %d bytes", size), b.put("too long", "bob", 99, zeros(size), 99), 5)
		isCode(t, fmt.Sprintf("P20.1: %d bytes", size), b.put("too long", "carol", 0, zeros(size), 0), 5)
	}
	b.areListed("sizes", "bob", want...)
	b.commit()
	b.reopen()
	b.areListed("sizes, opened anew", "bob", want...)
}

// P20.1: an empty packet is one: it counts, it is there, and it is acknowledged; nil is the same.
func TestEmptyPackets(t *testing.T) {
	b := laidOut(t)
	isCode(t, "nil", b.put("nil", "bob", 0, nil, 2), 0)
	isCode(t, "no bytes", b.put("no bytes", "bob", 1, []byte{}, 2), 0)
	b.isPut("there", "bob", 0, "x", 9, 151)
	b.isPut("full", "bob", 2, "", 2, 200)
	b.areListed("two", "bob", mail(0, ""), mail(1, ""))
	b.isAcked("nil", "bob", 0, 0)
	b.isDropped("no bytes", "bob", 1)
}

// P20.1: with n packets there, most decides alone: above n the next one is put, up to n it is not.
func TestMost(t *testing.T) {
	for n := range 6 {
		b := laidOut(t, others()...)
		for i := range n {
			b.lay(packetOf("bob", uint32(10*i), "p"))
		}
		b.commit()
		for _, most := range []int{math.MinInt, math.MinInt32, -65, -1, 0, 1, n - 1, n, n + 1, n + 2, 64, 65, 256, 257, 1 << 31, 1 << 32, 1<<32 + 1, math.MaxInt32, math.MaxInt - 1, math.MaxInt} {
			want := api.Errno(200)
			if most > n {
				want = 0
			}
			what := fmt.Sprintf("%d are there, at most %d", n, most)
			b.isPut(what, "bob", 5, "next", most, want)
			if want == 0 {
				b.isPut(what+", again", "bob", 5, "next", most, 151)
				b.isPut(what+", one more", "bob", 6, "next", n+1, 200)
				b.isPut(what+", one more", "bob", 6, "next", n+2, 0)
			}
			b.abort()
		}
	}
}

// P20.1: most is the caller's, at each call anew, also above MaxOutbox and beneath what is there; what is there stays.
func TestMostChanges(t *testing.T) {
	b := laidOut(t)
	for i := range uint32(300) {
		if i%30 == 0 {
			b.isPut("one too many", "bob", i, "p", int(i), 200)
		}
		if e := b.put("many", "bob", i, []byte{byte(i)}, int(i)+1); e != 0 {
			t.Fatalf("P20.1: packet %d: %d", i, e)
		}
	}
	b.isPut("fewer than there are", "bob", 300, "p", 64, 200)
	b.isPut("another peer", "carol", 300, "p", 1, 0)
	if mails, e := b.mails("many", "bob"); e != 0 || len(mails) != 300 || mails[299].Serial != 299 {
		t.Errorf("P20.2: %d packets, %d", len(mails), e)
	}
	b.isAcked("one of many", "bob", 256, 0)
	b.isPut("still too many", "bob", 300, "p", 299, 200)
	b.isPut("just enough", "bob", 300, "p", 300, 0)
	b.isDropped("many", "bob", 300)
	b.areListed("another peer", "carol", mail(300, "p"))
}

// P20.1: a refused Put leaves the packet that is there; what was acknowledged may be put again, with other bytes.
func TestAckAndPutAgain(t *testing.T) {
	b := laidOut(t, others()...)
	b.isAcked("nothing yet", "bob", 3, 201)
	b.isPut("first", "bob", 3, "x", 1, 0)
	b.isPut("the same", "bob", 3, "x", 1, 151)
	b.isPut("the same, other bytes", "bob", 3, "y", 1, 151)
	b.isPut("the same, room for more", "bob", 3, "y", 9, 151)
	b.areListed("as it was", "bob", mail(3, "x"))
	for _, s := range []uint32{0, 2, 4, 259, 3 << 8, 3 << 16, 3 << 24, 1<<32 - 1} {
		b.isAcked("another serial", "bob", s, 201)
	}
	for _, peer := range []string{"bo", "BOB", "bob ", "bob\x00\x00", "obb"} {
		b.isAcked("another peer", peer, 3, 201)
	}
	b.isAcked("there", "bob", 3, 0)
	b.isAcked("gone", "bob", 3, 201)
	b.isPut("again", "bob", 3, "z", 1, 0)
	b.areListed("again", "bob", mail(3, "z"))
	b.commit()
	b.isPut("committed", "bob", 3, "x", 9, 151)
	b.isAcked("committed", "bob", 3, 0)
	b.isPut("behind it", "bob", 4, "w", 1, 0)
	b.areListed("behind it", "bob", mail(4, "w"))
}

// P20.1, P20.2: Drop of none, one and many: it tells how many there were, and all else stays.
func TestDrop(t *testing.T) {
	for _, n := range []int{0, 1, 2, 3, 10, 64, 65, 255, 256, 257} {
		what := fmt.Sprintf("Drop of %d", n)
		b := laidOut(t, others()...)
		for i := range n {
			b.lay(packetOf("bob", uint32(i)*0x00fedcba, "p"))
		}
		b.isDropped(what, "bob", n)
		b.isDropped(what+" again", "bob", 0)
		b.areListed(what, "bob")
		b.isAcked(what, "bob", 0, 201)
		if !sameList(b.seen(), b.base) {
			t.Errorf("P20.2: %s: %s", what, told(b.seen()))
		}
		b.isPut(what+", a new one", "bob", 0, "q", 1, 0)
		b.isDropped(what+", a new one", "bob", 1)
	}
}

// P20.2: the very bytes, of every kind, behind Commit and Open too.
func TestVeryBytes(t *testing.T) {
	b := laidOut(t)
	var want []api.Mail
	for i := range 256 {
		packet := bytes.Repeat([]byte{byte(i), byte(255 - i)}, 1+i%7)
		b.put("bytes", "bob", uint32(i), packet, 256)
		want = append(want, mail(uint32(i), string(packet)))
	}
	b.areListed("bytes", "bob", want...)
	b.commit()
	b.reopen()
	b.areListed("bytes, opened anew", "bob", want...)
}
