package lethe_test

import (
	"bytes"
	"crypto/sha256"
	"fmt"
	"math/rand"
	"strings"
	"testing"

	"lethe/api"
	"lethe/lethe"
	"lethe/world"
)

// author: plays a world by hand, and draws each next step from what it sees there.
type author struct {
	t       *testing.T
	r       *rand.Rand
	nodes   int
	lim     api.Limits
	w       *world.World
	steps   []api.Step
	answers []api.Answer
	drawn   int
	crashes bool              // disks may be armed
	data    map[string][]byte // of each packet, with which data it was sealed
	offers  [][2]int          // who was handed a bundle, and whose
}

func newAuthor(t *testing.T, seed int, nodes int, lim api.Limits) *author {
	t.Helper()
	w, e := world.New(nodes, lim)
	if e != 0 {
		t.Fatalf("world.New(%d, %v): error %d", nodes, lim, e)
	}
	return &author{t: t, r: rand.New(rand.NewSource(int64(seed))), nodes: nodes, lim: lim, w: w, drawn: 100_000 * seed, crashes: true, data: map[string][]byte{}}
}

// drawnAuthor: with other nodes and limits for each seed.
func drawnAuthor(t *testing.T, seed int) *author {
	t.Helper()
	return newAuthor(t, seed, 2+seed%3, api.Limits{Peers: 1 + seed%2, Prekeys: 2 + seed%3, Skip: seed % 4, Skips: 1 + seed%5, Outbox: 2 + seed%4, Counter: uint32(5 + seed%7)})
}

// draw: one that was never taken.
func (a *author) draw() api.Key {
	a.drawn++
	return sha256.Sum256(fmt.Appendf(nil, "%d", a.drawn))
}

// plays: a step, by hand.
func (a *author) plays(s api.Step) api.Answer {
	got := a.w.Play(s)
	a.steps, a.answers = append(a.steps, s), append(a.answers, got)
	if s.Kind == 3 || s.Kind == 4 {
		a.data[got.Bytes] = s.Data
	}
	if s.Kind == 2 && got.Code == 0 {
		a.offers = append(a.offers, [2]int{s.Peer, s.Node})
	}
	return got
}

func (a *author) script() string { return scriptOf(a.nodes, a.lim, a.steps) }

// answersTold: a line for each step.
func (a *author) answersTold() string {
	var out strings.Builder
	for _, x := range a.answers {
		fmt.Fprintf(&out, "%d %d %d %s\n", x.Code, x.A, x.B, bytesTold([]byte(x.Bytes)))
	}
	return out.String()
}

// endTold: the lines of the nodes, and of the packets that are on their way.
func (a *author) endTold() string {
	var out strings.Builder
	bit := map[bool]int{true: 1}
	for i, v := range a.w.Views() {
		sum := "-"
		if image, e := a.w.Image(i + 1); e == 0 {
			sum = fmt.Sprintf("%x", sha256.Sum256(image))
		}
		fmt.Fprintf(&out, "= %d %d %d %d %d %d %d %s\n", i+1, bit[v.Created], bit[v.Up], v.Peers, v.Prekeys, v.Unanswered, v.Pages, sum)
	}
	for _, f := range a.w.Flights() {
		fmt.Fprintf(&out, "> %d %d %d %s\n", f.Number, f.From, f.To, bytesTold(f.Bytes))
	}
	return out.String()
}

func bytesTold(b []byte) string {
	if len(b) == 0 {
		return "-"
	}
	return fmt.Sprintf("%x", b)
}

// isRun: Run of the script so far answers what was seen by hand.
func (a *author) isRun(what string) {
	a.t.Helper()
	isRunAs(a.t, what, a.script(), a.answersTold()+a.endTold())
}

func isRunAs(t *testing.T, what, script, want string) {
	t.Helper()
	got, line, e := lethe.Run(script)
	if line != 0 || e != 0 || got != want {
		t.Fatalf("P28.5: %s: line %d, error %d\n%.3000s\nwant\n%.3000s\nof\n%.3000s", what, line, e, got, want, script)
	}
}

// kind: how often each is drawn; a node that does not run is opened soon.
func (a *author) kind() int {
	idle := 0
	for _, v := range a.w.Views() {
		if v.Created && !v.Up {
			idle++
		}
	}
	if idle > 0 && a.r.Intn(4) == 0 {
		return 12
	}
	n := a.r.Intn(100)
	for kind, often := range []int{1: 5, 2: 10, 3: 10, 4: 15, 5: 27, 6: 3, 7: 6, 8: 5, 9: 4, 10: 1, 11: 5, 12: 2, 13: 2, 14: 2, 15: 3} {
		if n -= often; n >= 0 {
			continue
		}
		switch {
		case kind == 11 && !a.crashes:
			return 5
		case kind >= 5 && kind <= 7 && len(a.w.Flights()) == 0 && a.r.Intn(4) > 0:
			return 2 + a.r.Intn(3)
		}
		return kind
	}
	return 15
}

// pair: a node and another one, most often one with whom it has a session, or of whom it holds a bundle.
func (a *author) pair(kind int) (node, peer int) {
	if kind == 3 && len(a.offers) > 0 && a.r.Intn(4) > 0 {
		x := a.offers[len(a.offers)-1-a.r.Intn(min(3, len(a.offers)))]
		return x[0], x[1]
	}
	node = 1 + a.r.Intn(a.nodes)
	list, _ := a.w.Records(node)
	for _, r := range list {
		if r.Table == 4 && a.r.Intn(3) > 0 {
			return node, int(r.Key[len(r.Key)-1] - '0')
		}
	}
	return node, 1 + (node+a.r.Intn(a.nodes-1))%a.nodes
}

// flight: one of the packets that are on their way, now and then one that is not.
func (a *author) flight() api.Flight {
	list := a.w.Flights()
	if len(list) == 0 || a.r.Intn(20) == 0 {
		return api.Flight{Number: a.r.Intn(9) - 1}
	}
	return list[a.r.Intn(len(list))]
}

func (a *author) loss() api.Loss {
	return api.Loss{Keep: []uint64{a.r.Uint64(), a.r.Uint64() & a.r.Uint64()}[:a.r.Intn(3)], Torn: a.r.Intn(8) - 1, Offset: a.r.Intn(513)}
}

// next: a step, most often one that can be taken.
func (a *author) next() api.Step {
	s := api.Step{Kind: a.kind(), A: a.r.Intn(3), Draw: a.draw(), Other: a.draw(), Text: drawnBytes(a.r, 30), Data: drawnBytes(a.r, 3), Loss: a.loss()}
	s.Node, s.Peer = a.pair(s.Kind)
	switch s.Kind {
	case 1:
		s.A = []int{20, 8, 4, 3, 2, 1}[a.r.Intn(6)]
	case 4:
		s.Text = make([]byte, []int{0, 1, 2, 9, 40, 300, 512, 513}[a.r.Intn(8)])
	case 5, 6, 7:
		f := a.flight()
		s.A = f.Number
		if a.r.Intn(9) > 0 {
			s.Data = bytes.Clone(a.data[string(f.Bytes)])
		}
	case 11:
		s.A = a.r.Intn(14)
	case 12:
		a.boots(&s)
	case 14:
		f := a.flight()
		s.Text = bytes.Clone(f.Bytes)
		if f.To > 0 && a.r.Intn(2) == 0 {
			s.Node, s.Peer, s.Data = f.To, f.From, bytes.Clone(a.data[string(f.Bytes)])
		}
	}
	if a.r.Intn(30) == 0 {
		s.Node, s.Peer, s.A = drawnNumber(a.r), drawnNumber(a.r), drawnNumber(a.r)
	}
	if s.Kind == 12 && !a.crashes {
		s.A = min(s.A, 0)
	}
	return only(s)
}

// boots: most often a node that does not run, on a disk that is armed now and then.
func (a *author) boots(s *api.Step) {
	for i, v := range a.w.Views() {
		if v.Created && !v.Up {
			s.Node = i + 1
		}
	}
	s.A = []int{0, 0, -1, 1 + a.r.Intn(9)}[a.r.Intn(4)]
}

// only: the step with its kind's fields alone.
func only(s api.Step) api.Step {
	f, _ := formOfKind(s.Kind)
	for _, c := range allFields {
		if !strings.ContainsRune(f.fields, c) {
			clearField(&s, c)
		}
	}
	return s
}

// writes: so many drawn steps more. Most nodes are created first, else nothing much can happen.
func (a *author) writes(steps int) *author {
	for k := range a.nodes {
		if len(a.steps) == k && a.r.Intn(8) > 0 {
			a.plays(api.Step{Kind: 1, Node: k + 1, A: []int{20, 5, 3}[a.r.Intn(3)], Draw: a.draw()})
		}
	}
	for range steps {
		a.plays(a.next())
	}
	return a
}
