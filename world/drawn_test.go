package world_test

import (
	"bytes"
	"encoding/binary"
	"fmt"
	"math/rand"
	"slices"
	"strings"
	"testing"

	"lethe/api"
)

// poet: draws scripts for a world.
type poet struct {
	*bench
	r     *rand.Rand
	count map[string]int
}

func newPoet(t *testing.T, run int, count map[string]int) *poet {
	lim := api.Limits{Peers: 1 + run/2%3, Prekeys: 2 + run%4, Skip: run % 4, Skips: 2 + run%5, Outbox: 2 + run%6, Counter: uint32(4 + run)}
	p := &poet{newBench(t, 2+run%3, lim), rand.New(rand.NewSource(int64(2400 + run))), count}
	p.drawn = 100_000 * run
	return p
}

func (p *poet) loss() api.Loss {
	return api.Loss{Keep: []uint64{p.r.Uint64() & p.r.Uint64()}[:p.r.Intn(2)], Torn: p.r.Intn(8) - 1, Offset: p.r.Intn(514)}
}

// text: most often a short one, now and then one that a small disk or no packet has room for; no two are alike.
func (p *poet) text() []byte {
	text := fmt.Appendf(nil, "%d", p.r.Int63())
	switch p.r.Intn(20) {
	case 0, 1, 2:
		return append(text, make([]byte, p.r.Intn(450))...)
	case 3:
		return append(text, make([]byte, 512-len(text)+p.r.Intn(2))...)
	}
	return text
}

func (p *poet) data() []byte {
	return make([]byte, []int{0, 0, 0, 0, 0, 0, 1, 1, 64, 65}[p.r.Intn(10)])
}

// flight: the number of one of the newest packets that are on their way, now and then of one that is not.
func (p *poet) flight() int {
	list := p.bench.r.flights()
	if len(list) == 0 || p.r.Intn(30) == 0 {
		return p.r.Intn(len(p.bench.r.air)+3) - 1
	}
	return list[max(0, len(list)-1-p.r.Intn(6))].Number
}

// serial: of a packet for the peer that is not acknowledged, if there is one.
func (p *poet) serial(node, peer int) int {
	name := nameOf(peer)
	for _, x := range p.bench.r.spots[node-1].list {
		if x.Table == 6 && bytes.HasPrefix(x.Key[1:], []byte(name)) && p.r.Intn(2) == 0 {
			return int(binary.BigEndian.Uint32(x.Key[len(x.Key)-4:]))
		}
	}
	return p.r.Intn(4) - 1
}

// kind: how often each is drawn; most often a node that does not run is opened again, and packets are sent ahead of being waited for.
func (p *poet) kind() int {
	if p.r.Intn(6) == 0 && slices.ContainsFunc(p.bench.r.spots, func(x spot) bool { return x.ended != 0 }) {
		return 12
	}
	n := p.r.Intn(99)
	for kind, often := range []int{1: 1, 2: 5, 3: 7, 4: 18, 5: 34, 6: 1, 7: 4, 8: 6, 9: 4, 10: 1, 11: 4, 12: 3, 13: 1, 14: 4, 15: 6} {
		if n -= often; n >= 0 {
			continue
		}
		if kind >= 5 && kind <= 7 && p.bench.r.flying == 0 && p.r.Intn(9) > 0 {
			return 4
		}
		return kind
	}
	return 5
}

// peer: most often one with whom the node has a session.
func (p *poet) peer(node int) int {
	nodes := len(p.bench.r.spots)
	peer := 1 + (node+p.r.Intn(nodes-1))%nodes
	for _, x := range p.bench.r.spots[node-1].list {
		if x.Table == 4 && p.r.Intn(3) > 0 {
			return int(x.Key[len(x.Key)-1] - '0')
		}
	}
	return peer
}

// garbage: a step with something in every field, so that fields which a kind does not name are there to be looked at.
func (p *poet) garbage() api.Step {
	far := farNumbers()
	number := func() int { return []int{p.r.Intn(6) - 1, far[p.r.Intn(len(far))]}[p.r.Intn(2)] }
	return api.Step{Node: number(), Peer: number(), A: number(), B: number(), Draw: api.Key{1, 2, 3}, Other: api.Key{4, 5}, Text: p.text(), Data: p.data(), Loss: p.loss()}
}

// next: a step, most often one that can be taken.
func (p *poet) next() api.Step {
	s := p.garbage()
	s.Kind = p.kind()
	if p.r.Intn(50) == 0 {
		return s
	}
	nodes := len(p.bench.r.spots)
	s.Node = 1 + p.r.Intn(nodes)
	s.Peer = p.peer(s.Node)
	p.begins(&s)
	s.Draw = p.bench.draw()
	s.Data = make([]byte, []int{0, 0, 0, 0, 0, 0, 0, 0, 0, 0, 0, 1, 64, 65}[p.r.Intn(14)])
	switch s.Kind {
	case 1:
		s.A = []int{20, 10, 5, 3, 2, 1, 250, 251, 0}[p.r.Intn(9)]
	case 2:
		if p.r.Intn(5) == 0 {
			break
		}
		s.Peer = 1 + (s.Node+nodes-2)%nodes // to the one ahead of it, most often: two who write first at the same time understand each other no more
	case 3:
		s.Other = p.bench.draw()
		if list := p.bench.r.spots[s.Node-1].bundles; len(list) > 0 {
			s.Peer = list[p.r.Intn(len(list))].from
		}
	case 5, 6, 7:
		if s.A = p.flight(); s.A >= 0 && s.A < len(p.bench.r.air) && p.r.Intn(12) > 0 {
			s.Data = []byte(p.bench.r.made[p.bench.r.air[s.A].bytes].data)
		}
	case 8:
		s.A = p.serial(s.Node, s.Peer)
	case 11:
		s.A = p.r.Intn([]int{8, 30}[p.r.Intn(2)])
	case 12:
		p.boots(&s)
	case 14:
		p.junks(&s)
	}
	return s
}

// begins: a node that has no session begins one, most often, ahead of all that needs one.
func (p *poet) begins(s *api.Step) {
	x := p.bench.r.spots[s.Node-1]
	has := slices.ContainsFunc(x.list, func(r api.Record) bool { return r.Table == 4 })
	if has || !slices.Contains([]int{4, 8, 9, 10, 15}, s.Kind) || p.r.Intn(5) == 0 {
		return
	}
	s.Kind = 2
	if len(x.bundles) > 0 {
		s.Kind = 3
	}
}

// boots: most often a node that does not run, on a disk that is armed now and then.
func (p *poet) boots(s *api.Step) {
	for i, x := range p.bench.r.spots {
		if x.ended != 0 {
			s.Node = i + 1
		}
	}
	s.A = []int{0, -1, 1 + p.r.Intn(9), 1 + p.r.Intn(30)}[p.r.Intn(4)]
}

// junks: bytes of no packet, or a packet that was on its way, as it was or bent, from its sender or from another one.
func (p *poet) junks(s *api.Step) {
	if len(p.bench.r.air) == 0 {
		return
	}
	x := p.bench.r.air[p.r.Intn(len(p.bench.r.air))]
	s.Node, s.Text = x.to, []byte(x.bytes)
	if p.r.Intn(2) == 0 {
		s.Peer = x.from
	}
	switch p.r.Intn(3) {
	case 0:
		s.Text[p.r.Intn(len(s.Text))] ^= 1
	case 1:
		s.Text = s.Text[:p.r.Intn(len(s.Text))]
	}
}

// plays: a step, counted by its kind and code.
func (p *poet) plays(what string, s api.Step) api.Answer {
	p.t.Helper()
	a := p.bench.plays(fmt.Sprintf("%s, kind %d", what, s.Kind), s)
	p.count[fmt.Sprintf("%d: %d", s.Kind, a.Code)]++
	return a
}

// P24.1, P24.2: drawn scripts, with crashes: behind every step answers, views, flights, images and records are what the words say.
func TestDrawnScripts(t *testing.T) {
	counts := make([]map[string]int, 72)
	t.Run("all", func(t *testing.T) {
		for run := range counts {
			counts[run] = map[string]int{}
			t.Run(fmt.Sprint(run), func(t *testing.T) {
				t.Parallel()
				p := newPoet(t, run, counts[run])
				for k := range p.bench.r.spots {
					if k > 0 || run%5 > 0 {
						p.does(fmt.Sprint("create ", k+1, " ", []int{20, 3, 10, 5}[run%4], " *"))
					}
				}
				for n := range 300 {
					p.plays(fmt.Sprint("step ", n), p.next())
				}
			})
		}
	})
	all := map[string]int{}
	for _, c := range counts {
		for what, n := range c {
			all[what] += n
		}
	}
	isMet(t, all)
}

// isMet: the scripts have met what they are drawn for.
func isMet(t *testing.T, all map[string]int) {
	t.Helper()
	for kind, codes := range []string{
		1: "0 4 120 241 240", 2: "0 80 120 191 220 240 242", 3: "0 5 80 120 210 213 220 240 242 245", 4: "0 5 80 120 130 200 211 220 240 242",
		5: "0 5 50 80 120 150 160 161 164 190 211 213 220 230", 6: "0 230", 7: "0 230", 8: "0 4 80 201 220 240 242", 9: "0 80 211 220 240 242", 10: "0 80 211 242",
		11: "0 80 240 242", 12: "0 80 240 242 243", 13: "0 80 220 240 242", 14: "0 10 50 80 160 161 190 211 220 240 242", 15: "0 80 211 220 240 242",
	} {
		for _, code := range strings.Fields(codes) {
			if what := fmt.Sprint(kind, ": ", code); all[what] == 0 {
				t.Errorf("kind %d never answered %s", kind, code)
			}
		}
		if what := fmt.Sprint(kind, ": 0"); kind > 0 && all[what] < 5 {
			t.Errorf("kind %d was taken %d times alone", kind, all[what])
		}
	}
}
