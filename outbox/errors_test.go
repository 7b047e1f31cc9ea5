package outbox_test

import (
	"fmt"
	"math"
	"strings"
	"testing"

	"lethe/api"
)

// call: what Put is handed, of which the other calls take their part.
type call struct {
	peer   string
	serial uint32
	size   int
	most   int
}

// fault: one of the chapter's errors, as something that is done to a right call, or to the records ahead of it.
type fault struct {
	name string
	code api.Errno
	done func(b *bench, c *call)
}

// faults: in the order in which the chapter names them; those of one row are of one error.
func faults() [][]fault {
	named := func(peer string) func(*bench, *call) { return func(b *bench, c *call) { c.peer = peer } }
	strays := func(behind ...string) func(*bench, *call) {
		return func(b *bench, c *call) {
			for _, s := range behind {
				b.lay(stray(c.peer, s))
			}
		}
	}
	sized := func(n int) func(*bench, *call) { return func(b *bench, c *call) { c.size = n } }
	most := func(n int) func(*bench, *call) { return func(b *bench, c *call) { c.most = n } }
	there := func(b *bench, c *call) { b.lay(packetOf(c.peer, c.serial, "there")) }
	full := func(b *bench, c *call) {
		c.most = 2
		b.lay(packetOf(c.peer, 1, "a"), packetOf(c.peer, 2, "b"))
	}
	return [][]fault{
		{{"no name", 212, named("")}, {"17 bytes", 212, named(strings.Repeat("n", 17))}, {"259 bytes", 212, named("bob" + strings.Repeat("\x00", 256))}},
		{{"the peer's bytes alone", 180, strays("")}, {"3 bytes more", 180, strays("abc")}, {"5 bytes more", 180, strays("abcde")}, {"a wrong one at either end", 180, strays("\x00", "\xff\xff\xff\xff\xff")}},
		{{"901 bytes", 5, sized(901)}, {"2000 bytes", 5, sized(2000)}},
		{{"there", 151, there}},
		{{"full", 200, full}, {"none may be", 200, most(0)}, {"fewer than none", 200, most(-1)}, {"the least", 200, most(math.MinInt)}},
	}
}

func (b *bench) isRefusedPut(what string, c call, want api.Errno) {
	b.t.Helper()
	isCode(b.t, "P20.1: "+what, b.put(what, c.peer, c.serial, zeros(c.size), c.most), want)
}

// P20.1: each error of Put alone, and each beside each that is named behind it. (The later one is done again behind the first, so that its records are the wrong name's too, where a key has room for that.)
func TestOrderOfPut(t *testing.T) {
	rows := faults()
	b := laidOut(t, others()...)
	for i, row := range rows {
		for _, f := range row {
			c := call{"bob", 3, 5, 9}
			f.done(b, &c)
			b.isRefusedPut(f.name, c, f.code)
			b.abort()
			for _, later := range rows[i+1:] {
				for _, g := range later {
					c := call{"bob", 3, 5, 9}
					g.done(b, &c)
					f.done(b, &c)
					if len(c.peer) < 50 {
						g.done(b, &c)
					}
					b.isRefusedPut(f.name+" and "+g.name, c, f.code)
					b.abort()
				}
			}
		}
	}
	b.isRefusedPut("no fault", call{"bob", 3, 5, 9}, 0)
}

// P20.1: all errors at once, and one after the other mended, the first one first.
func TestFaultsMended(t *testing.T) {
	b := laidOut(t, others()...)
	b.lay(stray("bob", "abc"), stray("bob", "abcde"), packetOf("bob", 3, "x"), packetOf("bob", 4, "y"))
	c := call{"", 3, 901, 2}
	b.isRefusedPut("all", c, 212)
	c.peer = "bob"
	b.isRefusedPut("a right name", c, 180)
	b.take(stray("bob", "abc"))
	b.isRefusedPut("one wrong key less", c, 180)
	b.take(stray("bob", "abcde"))
	b.isRefusedPut("right keys", c, 5)
	c.size = 900
	b.isRefusedPut("a right packet", c, 151)
	c.serial = 5
	b.isRefusedPut("another serial", c, 200)
	c.most = 3
	b.isRefusedPut("room for one more", c, 0)
}

// P20.1: names of 1 to 16 bytes are right, of any bytes.
func TestNames(t *testing.T) {
	b := laidOut(t, others()...)
	for length := range 40 {
		name := strings.Repeat("n", length)
		want := api.Errno(212)
		if 1 <= length && length <= 16 {
			want = 0
		}
		what := fmt.Sprintf("%d bytes", length)
		b.isPut(what, name, 7, "x", 1, want)
		_, e := b.mails(what, name)
		isCode(t, "P20.1: List of "+what, e, want)
		b.isAcked(what, name, 7, want)
		_, e = b.drop(what, name)
		isCode(t, "P20.1: Drop of "+what, e, want)
	}
	for _, length := range []int{256, 257, 259, 272, 273, 65537, 1 << 20} { // a length that is cut to one byte may look like a right one
		name := strings.Repeat("\x00", length)
		for i, e := range all(b.x, name, 0, nil, 9) {
			isCode(t, fmt.Sprintf("P20.1: %s of %d bytes", callName(i), length), e, 212)
		}
		b.isSeen("a long name")
	}
}

// P20.1, P20.2: every byte may stand in a name, at every place; bytes are counted, not characters.
func TestNamesOfAnyBytes(t *testing.T) {
	b := laidOut(t)
	var names []string
	for c := range 256 {
		names = append(names, string([]byte{byte(c)}))
	}
	names = append(names, strings.Repeat("\x00", 16), strings.Repeat("\xff", 16), "\x00\x00", "\x01\x00", "a\x00", "\x00a", "äöüßäöüß", "\xc3\xc3", "日本語日本", "  ", "\r\n", "bob\xff\xfe", "\x03bob", "0123456789abcdef")
	for i, name := range names {
		b.isPut("any bytes", name, uint32(i), name, 1, 0)
	}
	for i, name := range names {
		b.areListed("any bytes", name, mail(uint32(i), name))
	}
	isCode(t, "P20.1: 9 characters of 18 bytes", b.put("characters", "äöüßäöüßä", 1, nil, 9), 212)
	for i, name := range names {
		if i%2 == 0 {
			b.isAcked("any bytes", name, uint32(i), 0)
		} else {
			b.isDropped("any bytes", name, 1)
		}
	}
	if len(b.seen()) != 0 {
		t.Errorf("P20.2: %s is left", told(b.seen()))
	}
}

// P20.2: names of which one begins with the other, and with serials that look like the other's last bytes, are others.
func TestNamesThatBeginAlike(t *testing.T) {
	long := "aaaaaaaaaaaaaaaa"
	b := laidOut(t)
	for n := 1; n <= 16; n++ {
		b.isPut("alike", long[:n], 0x61616161, long[:n], 2, 0)
		b.isPut("alike", long[:n], uint32(n), "own", 2, 0)
		b.isPut("alike", long[:n], 99, "too many", 2, 200)
	}
	for n := 1; n <= 16; n++ {
		b.areListed("alike", long[:n], mail(uint32(n), "own"), mail(0x61616161, long[:n]))
		b.isAcked("another's serial", long[:n], uint32(n+1), 201)
	}
	for _, n := range []int{3, 16, 1, 8} {
		b.isDropped("one of them", long[:n], 2)
		b.areListed("dropped", long[:n])
	}
	for _, n := range []int{2, 4, 7, 9, 15} {
		b.isAcked("one of them", long[:n], 0x61616161, 0)
		b.areListed("acknowledged", long[:n], mail(uint32(n), "own"))
	}
}

// tails: what may stand behind the peer's bytes in a record that is none of its packets: none to as many bytes as a key has room for, but 4.
func tails(peer string) []string {
	list := []string{"", "\x00", "\x00\x00\x00", "\x00\x00\x00\x03\x00", "\xff", "\xff\xff\xff", "\xff\xff\xff\xff\xff", "abc", "abcdefgh", "\x00\x00\x00\x03\x00\x00\x00\x04"}
	for n := 0; n <= 64-1-len(peer); n++ {
		if n != 4 {
			list = append(list, strings.Repeat("m", n))
		}
	}
	return list
}

// P20.1: a wrong key of the peer's, wherever it stands beside its packets: ErrState of Put, List and Drop, which leave all as it was; Ack does not ask for that.
func TestWrongKeys(t *testing.T) {
	for _, peer := range []string{"b", "bob", "0123456789abcdef"} {
		for _, tail := range tails(peer) {
			what := fmt.Sprintf("%q, a key with %x behind it", peer, tail)
			b := laidOut(t, others()...)
			b.take(packetOf("b", 3, "")) // the only one of these that is one of the peers'
			b.lay(stray(peer, tail))
			b.areStates(what+", alone", peer)
			b.isAcked(what, peer, 3, 201)
			b.lay(packetOf(peer, 0, "first"), packetOf(peer, 3, "x"), packetOf(peer, 0x6d6d6d6d, "y"), packetOf(peer, 1<<32-1, "last"))
			b.areStates(what, peer)
			b.isPut(what+", another peer", "carol", 3, "x", 1, 0)
			b.areListed(what+", another peer", "carol", mail(3, "x"))
			b.isDropped(what+", another peer", "carol", 1)
			b.isAcked(what, peer, 4, 201)
			b.isAcked(what, peer, 3, 0)
			b.isAcked(what, peer, 3, 201)
			b.isAcked(what, peer, 1<<32-1, 0)
			b.areStates(what+", acknowledged", peer)
			b.take(stray(peer, tail))
			b.areListed(what+", mended", peer, mail(0, "first"), mail(0x6d6d6d6d, "y"))
			b.isPut(what+", mended", peer, 3, "z", 3, 0)
			b.isDropped(what+", mended", peer, 3)
		}
	}
}

// areStates: Put (of what would be taken, and of what would be refused), List and Drop.
func (b *bench) areStates(what, peer string) {
	b.t.Helper()
	for _, serial := range []uint32{0, 3, 5} {
		b.isPut(what, peer, serial, "p", 99, 180)
		b.isPut(what, peer, serial, "p", 0, 180)
		b.isPut(what, peer, serial, strings.Repeat("p", 901), 99, 180)
	}
	_, e := b.mails(what, peer)
	isCode(b.t, "P20.1: List: "+what, e, 180)
	_, e = b.drop(what, peer)
	isCode(b.t, "P20.1: Drop: "+what, e, 180)
}
