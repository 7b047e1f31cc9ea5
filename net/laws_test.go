package net_test

import (
	"fmt"
	"maps"
	"math/rand"
	"testing"

	"lethe/net"
)

// drawnNumber: most often one that is on its way, now and then one that has left, one beside those that were given, or one far off.
func drawnNumber(r *rand.Rand, n *net.Net) int {
	list, far := n.Flights(), farNumbers()
	switch r.Intn(8) {
	case 0:
		return far[r.Intn(len(far))]
	case 1, 2:
		return r.Intn(n.Next()+3) - 1
	}
	if len(list) == 0 {
		return n.Next()
	}
	return list[r.Intn(len(list))].Number
}

// drawnText: few texts, so that packets are alike, and the empty one.
func drawnText(r *rand.Rand) string {
	return []string{"", "\x00", "a", "ab", "ab\x00", "a longer text that is sent now and then"}[r.Intn(6)]
}

func step(what string, r *rand.Rand, b *bench) {
	b.t.Helper()
	k := drawnNumber(r, b.n)
	switch r.Intn(6) {
	case 0, 1:
		b.send(what, r.Intn(b.w.nodes+2), r.Intn(b.w.nodes+2), drawnText(r))
	case 2:
		b.send(what, 1+r.Intn(b.w.nodes), 1+r.Intn(b.w.nodes), drawnText(r))
	case 3:
		b.copy(what, k)
	case 4:
		b.deliver(what, k)
	default:
		b.drop(what, k)
	}
}

// P23.1, P23.2: drawn runs, held against the chapter's words behind each call.
func TestDrawnRuns(t *testing.T) {
	r := rand.New(rand.NewSource(23))
	for run := range 200 {
		b := newBench(t, 1+r.Intn(maxNodes), []int{0, 1, 2, 3, 5, 8, 13, maxFlight}[r.Intn(8)])
		for n := range 120 {
			step(fmt.Sprintf("run %d, call %d", run, n), r, b)
			if t.Failed() {
				return
			}
		}
	}
}

// kind: all of a packet but its number.
type kind struct {
	from, to int
	bytes    string
}

// bag: how many there are of each kind.
type bag map[kind]int

func (g bag) put(from, to int, b []byte) { g[kind{from, to, string(b)}]++ }

// bags: what went into a net, what left it either way, and which numbers did.
type bags struct {
	in, delivered, dropped bag
	left                   map[int]int
}

// bagStep: a drawn call of a net, noted by what it was handed and has answered alone.
func bagStep(r *rand.Rand, n *net.Net, g *bags) {
	k := drawnNumber(r, n)
	flights := map[int]kind{}
	for _, f := range n.Flights() {
		flights[f.Number] = kind{f.From, f.To, string(f.Bytes)}
	}
	switch r.Intn(5) {
	case 0, 1:
		from, to, x := r.Intn(5), r.Intn(5), []byte(drawnText(r))
		if _, e := n.Send(from, to, x); e == 0 {
			g.in.put(from, to, x)
		}
	case 2:
		if _, e := n.Copy(k); e == 0 {
			g.in[flights[k]]++
		}
	case 3:
		if f, e := n.Deliver(k); e == 0 {
			g.delivered.put(f.From, f.To, f.Bytes)
			g.left[k]++
		}
	default:
		if n.Drop(k) == 0 {
			g.dropped[flights[k]]++
			g.left[k]++
		}
	}
}

// together: one bag of all.
func together(list ...bag) bag {
	all := bag{}
	for _, g := range list {
		for k, count := range g {
			all[k] += count
		}
	}
	return all
}

// P23.2: behind any calls those sent and copied are together those delivered, dropped and on their way; and each number left at most once.
func TestBag(t *testing.T) {
	r := rand.New(rand.NewSource(2302))
	for run := range 100 {
		most := []int{1, 2, 4, 9, 100}[r.Intn(5)]
		n, _ := net.New(4, most)
		g := &bags{bag{}, bag{}, bag{}, map[int]int{}}
		for call := range 300 {
			bagStep(r, n, g)
			way := bag{}
			for _, f := range n.Flights() {
				way.put(f.From, f.To, f.Bytes)
			}
			if out := together(g.delivered, g.dropped, way); !maps.Equal(g.in, out) {
				t.Fatalf("P23.2: run %d, call %d: sent and copied %v, delivered, dropped and on their way %v", run, call, g.in, out)
			}
			if count := len(n.Flights()); count > most || count+len(g.left) != n.Next() {
				t.Fatalf("P23.2: run %d, call %d: %d on their way, %d left, the next number %d, room for %d", run, call, count, len(g.left), n.Next(), most)
			}
		}
		for k, count := range g.left {
			if count != 1 || k < 0 || k >= n.Next() {
				t.Errorf("P23.2: run %d: number %d left %d times", run, k, count)
			}
		}
		if len(g.delivered) == 0 || len(g.dropped) == 0 {
			t.Errorf("run %d shows little: nothing was delivered, or nothing dropped", run)
		}
	}
}

// Rule 5: two nets go their ways without seeing each other, and one that is handed the same calls answers the same.
func TestNetsInTurns(t *testing.T) {
	r := rand.New(rand.NewSource(2303))
	one, other, twin := newBench(t, 3, 8), newBench(t, 2, 3), newBench(t, 3, 8)
	for n := range 1000 {
		seed := r.Int63()
		step(fmt.Sprintf("one, call %d", n), rand.New(rand.NewSource(seed)), one)
		step(fmt.Sprintf("other, call %d", n), r, other)
		step(fmt.Sprintf("twin, call %d", n), rand.New(rand.NewSource(seed)), twin)
		if t.Failed() {
			return
		}
	}
	if fmt.Sprint(toldFlights(one.n.Flights())) != fmt.Sprint(toldFlights(twin.n.Flights())) || one.n.Next() != twin.n.Next() {
		t.Errorf("Rule 5: %v and %v", toldFlights(one.n.Flights()), toldFlights(twin.n.Flights()))
	}
}

// Rule 5: to ask changes nothing, however often.
func TestAskingChangesNothing(t *testing.T) {
	b := filled(t, 4, "a", "b", "c")
	b.drop("ahead", 1)
	for range 100 {
		b.n.Next()
		b.n.Flights()
	}
	b.isSame("asked")
	b.isCode("room for two", b.send("asked", 1, 1, "d"), 0)
	b.isCode("room for one", b.copy("asked", 0), 0)
	b.isCode("full", b.send("asked", 1, 1, "e"), full)
}
