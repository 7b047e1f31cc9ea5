package net_test

import (
	"bytes"
	"fmt"
	"math"
	"testing"

	"lethe/api"
	"lethe/net"
)

// P23.1: New at every number of nodes, and at and beside all bounds of most.
func TestNew(t *testing.T) {
	nodes := append(farNumbers(), 0, 1, 2, 3, 4, 5, 6, 8, 257, 260)
	mosts := append(farNumbers(), 0, 1, 2, 255, 256, 4095, 4096, 4097, 4098, 8192, 1<<16+1)
	for _, a := range nodes {
		for _, most := range mosts {
			right := a >= 1 && a <= maxNodes && most >= 0 && most <= maxFlight
			n, e := net.New(a, most)
			if right && (n == nil || e != 0 || len(n.Flights()) != 0 || n.Next() != 0) {
				t.Errorf("P23.1: New(%d, %d): error %d, net %v", a, most, e, n)
			}
			if !right && (n != nil || e != limits) {
				t.Errorf("P23.1: New(%d, %d): error %d, net %v, want %d", a, most, e, n, limits)
			}
		}
	}
}

// P23.1: from each node to each, itself too, and past them on both sides, in a net with room and in one without.
func TestSendNodes(t *testing.T) {
	for nodes := 1; nodes <= maxNodes; nodes++ {
		for _, most := range []int{0, 1, maxFlight} {
			b := newBench(t, nodes, most)
			ends := append(farNumbers(), 0, 1, 2, 3, 4, 5, 6, 7, 8, 257, 258)
			for _, from := range ends {
				for _, to := range ends {
					what := fmt.Sprintf("%d nodes, room for %d", nodes, most)
					e := b.send(what, from, to, "x")
					right := from >= 1 && from <= nodes && to >= 1 && to <= nodes
					if !right {
						b.isCode(what, e, noNode)
					} else if most == maxFlight {
						b.isCode(what, e, 0)
					}
				}
			}
			if most == maxFlight && b.n.Next() != nodes*nodes {
				t.Errorf("P23.1: %d nodes: %d packets are on their way", nodes, b.n.Next())
			}
		}
	}
}

// P23.1: two errors at a time: Send's wrong nodes go ahead of a full net, Copy's missing packet too.
func TestErrorsTogether(t *testing.T) {
	for most := range 4 {
		b := newBench(t, 2, most)
		for range most {
			b.isCode("filled up", b.send("filled up", 1, 2, "x"), 0)
		}
		for _, ends := range [][2]int{{0, 1}, {1, 0}, {3, 1}, {1, 3}, {0, 0}, {3, 3}, {-1, 2}, {2, math.MaxInt}, {math.MinInt, math.MinInt}} {
			b.isCode("a wrong node and no room", b.send("full", ends[0], ends[1], "y"), noNode)
		}
		for _, ends := range [][2]int{{1, 1}, {1, 2}, {2, 1}, {2, 2}} {
			b.isCode("no room", b.send("full", ends[0], ends[1], ""), full)
		}
		for k := range most {
			b.isCode("no room", b.copy("full", k), full)
		}
		for _, k := range append(farNumbers(), most, most+1, maxFlight) {
			b.isCode("no such packet and no room", b.copy("full", k), noFlight)
		}
	}
}

// P23.1: Copy of one that has left, in a net that is full again.
func TestCopyOfGoneInFullNet(t *testing.T) {
	b := filled(t, 2, "a", "b")
	b.isCode("delivered", b.deliver("one", 0), 0)
	b.isCode("room again", b.send("another", 2, 3, "c"), 0)
	b.isCode("gone and no room", b.copy("delivered", 0), noFlight)
	b.isCode("dropped", b.drop("the next", 1), 0)
	b.isCode("room again", b.copy("another", 2), 0)
	b.isCode("gone and no room", b.copy("dropped", 1), noFlight)
	b.isCode("there and no room", b.copy("another", 2), full)
	b.isCode("there and no room", b.copy("its copy", 3), full)
}

// P23.1: numbers that are on no packet's way, in a net with none, and in one with some: those never given, those that have left either way, those below 0 and the ends of what there is.
func TestNoFlight(t *testing.T) {
	empty, b := newBench(t, 4, maxFlight), filled(t, maxFlight, "a", "b", "c", "d", "e")
	b.isCode("there", b.deliver("ahead", 1), 0)
	b.isCode("there", b.drop("ahead", 3), 0)
	for _, k := range append(farNumbers(), 1, 3, 5, 6, 7, 256, 257, 260, maxFlight, maxFlight+1) {
		for _, x := range []*bench{empty, b} {
			for range 2 {
				b.isCode("Deliver", x.deliver("not there", k), noFlight)
				b.isCode("Drop", x.drop("not there", k), noFlight)
				b.isCode("Copy", x.copy("not there", k), noFlight)
			}
		}
	}
	b.isCode("none was sent", empty.deliver("0", 0), noFlight)
	for _, k := range []int{0, 2, 4} {
		b.isCode("still there", b.copy("still there", k), 0)
		b.isCode("still there", b.deliver("still there", k), 0)
	}
}

// P23.2: each number is delivered or dropped at most once, whichever came first; its copy is another one.
func TestOnce(t *testing.T) {
	ways := []func(*bench, int) api.Errno{
		func(b *bench, k int) api.Errno { return b.deliver("once", k) },
		func(b *bench, k int) api.Errno { return b.drop("once", k) },
	}
	for _, first := range ways {
		for _, second := range ways {
			b := filled(t, 9, "a", "b")
			b.isCode("copied", b.copy("ahead", 0), 0)
			b.isCode("first", first(b, 0), 0)
			b.isCode("again", second(b, 0), noFlight)
			b.isCode("copied again", b.copy("gone", 0), noFlight)
			b.isCode("the copy", second(b, 2), 0)
			b.isCode("the copy again", first(b, 2), noFlight)
			b.isCode("another one", first(b, 1), 0)
		}
	}
}

// P23.1: a net without room: nothing ever sets out, and the next number stays 0.
func TestNoRoom(t *testing.T) {
	for nodes := 1; nodes <= maxNodes; nodes++ {
		b := newBench(t, nodes, 0)
		for range 3 {
			b.isCode("no room", b.send("none", 1, nodes, "x"), full)
			b.isCode("no room", b.send("none", nodes, nodes, ""), full)
			b.isCode("nothing there", b.copy("none", 0), noFlight)
			b.isCode("nothing there", b.deliver("none", 0), noFlight)
			b.isCode("nothing there", b.drop("none", 0), noFlight)
		}
	}
}

// P23.1: every small room and the greatest ones: so many packets and no more; each that leaves makes room for one.
func TestRoom(t *testing.T) {
	for _, most := range []int{1, 2, 3, 4, 5, 8, 16, 63, 64, 65} {
		b := newBench(t, 2, most)
		for k := range most {
			if k%3 == 2 {
				b.isCode("room", b.copy("filled up", k-1), 0)
			} else {
				b.isCode("room", b.send("filled up", 1, 2, fmt.Sprint(k)), 0)
			}
		}
		for round := range 2 * most {
			b.isCode("full", b.send("full", 2, 1, "y"), full)
			b.isCode("full", b.copy("full", b.n.Flights()[most/2].Number), full)
			leaver := b.n.Flights()[round*7%most].Number
			if round%2 == 0 {
				b.isCode("one leaves", b.deliver("full", leaver), 0)
			} else {
				b.isCode("one leaves", b.drop("full", leaver), 0)
			}
			if round%3 > 0 || most == 1 {
				b.isCode("room again", b.send("room again", 2, 1, "z"), 0)
			} else {
				b.isCode("room again", b.copy("room again", b.n.Flights()[0].Number), 0)
			}
		}
	}
}

// P23.1: the greatest room is that of the document. (The words are asked at the end alone: they are slow.)
func TestGreatestRoom(t *testing.T) {
	for _, most := range []int{255, 256, 257, maxFlight - 1, maxFlight} {
		b := newBench(t, 4, most)
		for k := range most {
			if got, e := b.n.Send(1+k%4, 1+k/4%4, []byte(fmt.Sprint(k))); got != k || e != 0 {
				t.Fatalf("P23.1: packet %d of %d: number %d, error %d", k, most, got, e)
			}
			b.w.all = append(b.w.all, packet{1 + k%4, 1 + k/4%4, fmt.Sprint(k), onWay})
		}
		b.isCode("full", b.send("full", 1, 1, "x"), full)
		b.isCode("full", b.copy("full", most-1), full)
		b.isCode("one leaves", b.drop("full", 17), 0)
		b.isCode("room again", b.copy("room again", most-1), 0)
		b.isCode("full", b.send("full again", 1, 1, "x"), full)
	}
}

// P23.1: numbers rise by one from 0 on and none is given twice, behind packets that left, at once or later, the highest ones and all of them too.
func TestNumbers(t *testing.T) {
	b := newBench(t, 2, 3)
	for k := range 200 {
		if k%5 == 4 && b.w.there(k-1) {
			b.isCode("a copy", b.copy("numbers", k-1), 0)
		} else {
			b.isCode("a packet", b.send("numbers", 1, 2, fmt.Sprint(k)), 0)
		}
		if k%3 != 1 {
			b.isCode("the highest one leaves", b.deliver("numbers", k), 0)
		}
		if k%6 == 5 {
			for _, f := range b.n.Flights() {
				b.isCode("all leave", b.drop("numbers", f.Number), 0)
			}
		}
		if b.n.Next() != k+1 {
			t.Fatalf("P23.1: behind packet %d the next number is %d", k, b.n.Next())
		}
	}
}

// P23.1: refused calls change nothing, however many and whatever they are.
func TestRefusedChangeNothing(t *testing.T) {
	for most := range 4 {
		b := newBench(t, 2, most)
		for k := range most {
			b.send("filled up", 1, 2, fmt.Sprint(k))
		}
		want, next := fmt.Sprint(toldFlights(b.n.Flights())), b.n.Next()
		for range 50 {
			b.n.Send(1, 2, []byte("x"))
			b.n.Send(0, 2, []byte("x"))
			b.n.Send(1, 3, nil)
			for _, k := range []int{-1, most, math.MinInt, math.MaxInt} {
				b.n.Deliver(k)
				b.n.Drop(k)
				b.n.Copy(k)
			}
			for k := range most {
				b.n.Copy(k)
			}
			if got := fmt.Sprint(toldFlights(b.n.Flights())); got != want || b.n.Next() != next {
				t.Fatalf("P23.1: room for %d: %s, next %d, want %s, %d", most, got, b.n.Next(), want, next)
			}
		}
		if most > 0 {
			b.isCode("goes on", b.deliver("goes on", most-1), 0)
			b.isCode("goes on", b.send("goes on", 2, 2, "y"), 0)
		}
	}
}

// P23.1: the list rises, in whatever order packets left ahead of it, and each time anew.
func TestFlightsInAllOrders(t *testing.T) {
	for _, order := range orders(5) {
		b := filled(t, 9, "a", "b", "", "d", "e")
		for i, k := range order {
			if (i+k)%2 == 0 {
				b.isCode("there", b.deliver(fmt.Sprint(order), k), 0)
			} else {
				b.isCode("there", b.drop(fmt.Sprint(order), k), 0)
			}
			if i == 2 {
				b.isCode("one more", b.send(fmt.Sprint(order), 3, 1, "f"), 0)
			}
		}
		if list := b.n.Flights(); len(list) != 1 || list[0].Number != 5 {
			t.Errorf("P23.1: %v: %v is left", order, toldFlights(list))
		}
	}
	b := newBench(t, 3, 300)
	for k := range 300 {
		b.send("many", 1+k%3, 2, fmt.Sprint(k*k))
	}
	for k := range 100 {
		b.deliver("many", k*k*7%300)
		b.isSame("asked again")
	}
}

// P23.2: bytes of every length and kind come as they were sent, and their copies, and a copy's copy.
func TestVeryBytes(t *testing.T) {
	var texts []string
	for c := range 256 {
		texts = append(texts, string(bytes.Repeat([]byte{byte(c), byte(255 - c), 0}, 1+c%7)))
	}
	for _, size := range []int{0, 1, 2, 16, 255, 256, 257, 1024, 65535, 65536, 65537, 1 << 20} {
		texts = append(texts, string(bytes.Repeat([]byte{0xc3}, size)), string(make([]byte, size)))
	}
	for i, x := range texts {
		b := newBench(t, 4, 4)
		b.isCode("sent", b.send("bytes", 1+i%4, 1+i/4%4, x), 0)
		b.isCode("copied", b.copy("bytes", 0), 0)
		b.isCode("copied again", b.copy("bytes", 1), 0)
		b.isCode("it comes", b.deliver("bytes", 0), 0)
		b.isCode("the copy's copy comes", b.deliver("bytes", 2), 0)
		b.isCode("the copy comes", b.deliver("bytes", 1), 0)
	}
}

// Rule 4: nil is a packet without bytes: it takes room, has a number, is copied and comes.
func TestNilBytes(t *testing.T) {
	b := newBench(t, 1, 2)
	k, e := b.n.Send(1, 1, nil)
	want, code := b.w.send(1, 1, "")
	b.isNumber("nil", k, e, want, code)
	b.isSame("nil")
	b.isCode("copied", b.copy("nil", 0), 0)
	b.isCode("full", b.send("nil", 1, 1, ""), full)
	b.isCode("it comes", b.deliver("nil", 0), 0)
	b.isCode("the copy comes", b.deliver("nil", 1), 0)
}
