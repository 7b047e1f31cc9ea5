package net_test

import (
	"fmt"
	"math"
	"slices"
	"testing"

	"lethe/api"
	"lethe/net"
)

// The numbers as the chapter has them, so that a changed constant is seen.
const (
	maxNodes  = 4
	maxFlight = 4096
	limits    = api.Errno(2)
	noFlight  = api.Errno(230)
	full      = api.Errno(231)
	noNode    = api.Errno(240)
)

// What has become of a packet.
const (
	onWay = iota
	delivered
	dropped
)

// packet: one that was sent or copied, its bytes as a text, which nobody can write to.
type packet struct {
	from, to int
	bytes    string
	fate     int
}

// words: a net made from the chapter's words: all packets that ever were, each at the place of its number.
type words struct {
	nodes, most int
	all         []packet
}

func (w *words) room() bool {
	count := 0
	for _, p := range w.all {
		if p.fate == onWay {
			count++
		}
	}
	return count < w.most
}

// there: is k's packet on its way?
func (w *words) there(k int) bool {
	return k >= 0 && k < len(w.all) && w.all[k].fate == onWay
}

func (w *words) send(from, to int, b string) (int, api.Errno) {
	if from < 1 || from > w.nodes || to < 1 || to > w.nodes {
		return 0, noNode
	}
	if !w.room() {
		return 0, full
	}
	w.all = append(w.all, packet{from, to, b, onWay})
	return len(w.all) - 1, 0
}

// leave: k's packet meets its fate, if it is on its way.
func (w *words) leave(k, fate int) api.Errno {
	if !w.there(k) {
		return noFlight
	}
	w.all[k].fate = fate
	return 0
}

func (w *words) copy(k int) (int, api.Errno) {
	if !w.there(k) {
		return 0, noFlight
	}
	return w.send(w.all[k].from, w.all[k].to, w.all[k].bytes)
}

// flights: those that are on their way, told one by one.
func (w *words) flights() []string {
	var list []string
	for k, p := range w.all {
		if p.fate == onWay {
			list = append(list, told(k, p.from, p.to, p.bytes))
		}
	}
	return list
}

func told(k, from, to int, b string) string { return fmt.Sprintf("{%d, %d to %d, %q}", k, from, to, b) }

func toldFlight(f api.Flight) string { return told(f.Number, f.From, f.To, string(f.Bytes)) }

func toldFlights(list []api.Flight) []string {
	var out []string
	for _, f := range list {
		out = append(out, toldFlight(f))
	}
	return out
}

// bench: a net and its words, which are handed the same calls.
type bench struct {
	t *testing.T
	n *net.Net
	w *words
}

func newBench(t *testing.T, nodes, most int) *bench {
	t.Helper()
	n, e := net.New(nodes, most)
	if n == nil || e != 0 {
		t.Fatalf("P23.1: New(%d, %d): error %d, net %v", nodes, most, e, n)
	}
	b := &bench{t, n, &words{nodes: nodes, most: most}}
	b.isSame("a new one")
	return b
}

// filled: a bench of three nodes with these texts on their way from node 1 to node 2.
func filled(t *testing.T, most int, texts ...string) *bench {
	t.Helper()
	b := newBench(t, 3, most)
	for _, x := range texts {
		b.send("filled", 1, 2, x)
	}
	return b
}

// isNumber: a call that answers a number and an error.
func (b *bench) isNumber(what string, k int, e api.Errno, want int, code api.Errno) {
	b.t.Helper()
	if k != want || e != code {
		b.t.Errorf("P23.1: %s: number %d, error %d, want %d, %d", what, k, e, want, code)
	}
}

func (b *bench) send(what string, from, to int, x string) api.Errno {
	b.t.Helper()
	what = fmt.Sprintf("%s: Send(%d, %d, %d bytes)", what, from, to, len(x))
	k, e := b.n.Send(from, to, []byte(x))
	want, code := b.w.send(from, to, x)
	b.isNumber(what, k, e, want, code)
	b.isSame(what)
	return code
}

func (b *bench) copy(what string, k int) api.Errno {
	b.t.Helper()
	what = fmt.Sprintf("%s: Copy(%d)", what, k)
	got, e := b.n.Copy(k)
	want, code := b.w.copy(k)
	b.isNumber(what, got, e, want, code)
	b.isSame(what)
	return code
}

func (b *bench) deliver(what string, k int) api.Errno {
	b.t.Helper()
	what = fmt.Sprintf("%s: Deliver(%d)", what, k)
	f, e := b.n.Deliver(k)
	code := b.w.leave(k, delivered)
	want := told(0, 0, 0, "")
	if code == 0 {
		p := b.w.all[k]
		want = told(k, p.from, p.to, p.bytes)
	}
	if toldFlight(f) != want || e != code {
		b.t.Errorf("P23.1, P23.2: %s: %.200s, error %d, want %.200s, %d", what, toldFlight(f), e, want, code)
	}
	b.isSame(what)
	return code
}

func (b *bench) drop(what string, k int) api.Errno {
	b.t.Helper()
	what = fmt.Sprintf("%s: Drop(%d)", what, k)
	e := b.n.Drop(k)
	code := b.w.leave(k, dropped)
	if e != code {
		b.t.Errorf("P23.1: %s: error %d, want %d", what, e, code)
	}
	b.isSame(what)
	return code
}

// isSame: all that a net can be asked for without changing it.
func (b *bench) isSame(what string) {
	b.t.Helper()
	if got, want := toldFlights(b.n.Flights()), b.w.flights(); !slices.Equal(got, want) {
		b.t.Errorf("P23.1, P23.2: behind %s: Flights %.300q, want %.300q", what, got, want)
	}
	if got, want := b.n.Next(), len(b.w.all); got != want {
		b.t.Errorf("P23.1: behind %s: Next %d, want %d", what, got, want)
	}
}

// isCode: the words have answered as the chapter says of this very case.
func (b *bench) isCode(what string, got, want api.Errno) {
	b.t.Helper()
	if got != want {
		b.t.Errorf("P23.1: %s: error %d, want %d", what, got, want)
	}
}

// farNumbers: numbers below 0 and far above, and such whose low bits could be taken for a right one.
func farNumbers() []int {
	return []int{math.MinInt, math.MinInt + 1, math.MinInt + 2, -1 << 32, -1<<32 + 1, math.MinInt32, -1 << 16, -4096, -256, -255, -4, -2, -1, 1 << 16, 1<<16 + 1, math.MaxInt32, 1 << 31, 1 << 32, 1<<32 + 1, 1<<32 + 2, 1 << 62, math.MaxInt - 1, math.MaxInt}
}

// orders: all orders of the numbers below n.
func orders(n int) [][]int {
	if n == 0 {
		return [][]int{nil}
	}
	var all [][]int
	for _, o := range orders(n - 1) {
		for at := 0; at <= len(o); at++ {
			all = append(all, slices.Insert(slices.Clone(o), at, n-1))
		}
	}
	return all
}

// whole: a list with its spare room.
func whole[T any](list []T) []T { return list[:cap(list)] }

// spoil: every byte is another one, spare room too.
func spoil(b []byte) {
	for i := range whole(b) {
		whole(b)[i] ^= 0xff
	}
}
