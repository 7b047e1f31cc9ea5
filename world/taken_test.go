package world_test

import (
	"fmt"
	"math/rand"
	"testing"

	"lethe/api"
	"lethe/header"
)

// spotOf: a message's turn and number.
type spotOf struct{ turn, n uint32 }

// ear: what a node has of one other's messages, by the document's words alone: no key is looked at.
type ear struct {
	turns, got uint32
	missing    map[spotOf]int // those that haven't come although a later one has
}

// crowd: nodes that talk over a network that loses, doubles, delays and reorders packets, on disks that give up now and then.
type crowd struct {
	*bench
	r     *rand.Rand
	lim   api.Limits
	ears  map[place]*ear // of the first node, for the second one's messages; nil: no session
	used  map[place]int  // prekeys that have served
	peers map[int]int    // how many sessions a node has
	count map[string]int
}

// takes: P8's last sentence: is a packet taken that comes now? The second answer: which keys would be missing then.
func (c *crowd) takes(to, from int, p api.Packet) (bool, []spotOf) {
	e := c.ears[place{to, from}]
	if e == nil {
		if p.Kind != 1 || c.used[place{to, int(p.Hello.Prekey)}] > 0 || c.peers[to] >= c.lim.Peers {
			return false, nil
		}
		e = &ear{}
	}
	h := p.Header
	at := spotOf{h.Turn, h.N}
	if e.missing[at] > 0 {
		return true, nil
	}
	if h.Turn+1 < e.turns || h.Turn+1 == e.turns && h.N < e.got || h.Turn > e.turns {
		return false, nil
	}
	var fresh []spotOf
	first := e.got
	if h.Turn == e.turns {
		for n := e.got; e.turns > 0 && n < h.Prev; n++ {
			fresh = append(fresh, spotOf{e.turns - 1, n})
		}
		if len(fresh) > c.lim.Skip {
			return false, nil
		}
		first = 0
	}
	for n := first; n < h.N; n++ {
		fresh = append(fresh, spotOf{h.Turn, n})
	}
	if int(h.N)-int(first) > c.lim.Skip || len(fresh) > 0 && len(fresh)+len(e.missing) > c.lim.Skips {
		return false, nil
	}
	return true, fresh
}

// took: it was.
func (c *crowd) took(to, from int, p api.Packet, fresh []spotOf) {
	e := c.ears[place{to, from}]
	if e == nil {
		e = &ear{missing: map[spotOf]int{}}
		c.ears[place{to, from}] = e
		c.used[place{to, int(p.Hello.Prekey)}]++
		c.peers[to]++
	}
	at := spotOf{p.Header.Turn, p.Header.N}
	if e.missing[at] > 0 {
		delete(e.missing, at)
		return
	}
	for _, x := range fresh {
		e.missing[x] = 1
	}
	e.turns, e.got = at.turn+1, at.n+1
}

// comes: one of the newest packets, with its data.
func (c *crowd) comes(what string) {
	c.t.Helper()
	list := c.w.Flights()
	if len(list) == 0 {
		return
	}
	f := list[max(0, len(list)-1-c.r.Intn(9))]
	p, _ := header.Unpack(f.Bytes)
	x := c.bench.r.made[string(f.Bytes)]
	want, fresh := c.takes(f.To, f.From, p)
	ahead, _ := c.w.Records(f.To)
	armed := c.r.Intn(4) == 0
	if armed {
		c.does(fmt.Sprintf("arm %d %d %016x %d %d", f.To, 1+c.r.Intn(30), c.r.Uint64()&c.r.Uint64(), c.r.Intn(9)-1, c.r.Intn(514)))
	}
	a := c.plays(what, api.Step{Kind: 5, A: f.Number, Draw: c.draw(), Data: []byte(x.data)})
	switch {
	case a.Code == 80:
		c.boots(f.To)
		list, _ := c.w.Records(f.To)
		if happened := !sameRecords(list, ahead); happened {
			c.took(f.To, f.From, p, fresh)
			c.count["taken by a disk that gave up"]++
		}
		return
	case want && a != (api.Answer{A: f.To, B: f.From, Bytes: x.text}):
		c.t.Errorf("P8: %s: %s, though the packet is one that is taken", what, told(a))
	case !want && a.Code == 0:
		c.t.Errorf("P8: %s: %s, though the packet is one that is refused", what, told(a))
	}
	if armed {
		c.does(fmt.Sprintf("arm %d 0 - 0 0", f.To))
	}
	c.count[fmt.Sprint("taken: ", want)]++
	if want {
		if len(fresh) > 0 {
			c.count["keys are skipped"]++
		}
		c.took(f.To, f.From, p, fresh)
	}
}

func (c *crowd) boots(node int) {
	c.t.Helper()
	for c.does(fmt.Sprintf("boot %d %d %016x -1 0", node, c.r.Intn(9), c.r.Uint64())).Code != 0 {
		c.count["Open gave up"]++
	}
	c.does(fmt.Sprintf("arm %d 0 - 0 0", node))
}

// writes: a message; the lower node of two writes first, so that there is one session of both.
func (c *crowd) writes(what string, from, to int) {
	c.t.Helper()
	text := fmt.Sprint("'", what[5:])
	data := []string{"-", "'data"}[c.r.Intn(2)]
	if c.r.Intn(6) == 0 {
		c.does(fmt.Sprintf("arm %d %d - -1 0", from, 1+c.r.Intn(30)))
	}
	line := fmt.Sprintf("send %d %d %s %s", from, to, text, data)
	if from < to && c.does(lineOf("status %d %d", from, to)).Code == 211 {
		c.does(lineOf("publish %d %d *", to, from))
		line = fmt.Sprintf("initiate %d %d * * %s %s", from, to, text, data)
	}
	c.does(line)
	if c.bench.r.spots[from-1].ended != 0 {
		c.boots(from)
	}
	c.does(fmt.Sprintf("arm %d 0 - 0 0", from))
	if line[0] == 'i' && c.does(lineOf("status %d %d", from, to)).Code == 0 { // told, or made by a call that met a disk that gave up
		c.peers[from]++
		c.ears[place{from, to}] = &ear{missing: map[spotOf]int{}}
	}
}

// steps: one of all that may happen.
func (c *crowd) steps(what string) {
	c.t.Helper()
	nodes := len(c.bench.r.spots)
	from := 1 + c.r.Intn(nodes)
	to := 1 + (from+c.r.Intn(nodes-1))%nodes
	list := c.w.Flights()
	switch n := c.r.Intn(20); {
	case n < 6:
		c.writes(what, from, to)
	case n == 6 && len(list) > 0:
		c.does(lineOf("drop %d", list[c.r.Intn(len(list))].Number))
	case n <= 8 && len(list) > 0:
		c.does(lineOf("copy %d", list[max(0, len(list)-1-c.r.Intn(9))].Number))
	case n == 9:
		c.does(lineOf("replay %d %d", from, to))
	case n == 10:
		if list, err := c.w.Records(from); err == 0 {
			for _, r := range list {
				if r.Table == 6 && c.r.Intn(2) == 0 {
					c.does(lineOf("ack %d %d %d", from, int(r.Key[6]-'0'), int(r.Key[10])))
				}
			}
		}
	default:
		c.comes(what)
	}
}

// P8: whatever the network and the disks do, a packet is taken when it comes if the document says so, and else refused.
func TestTakenWhenItComes(t *testing.T) {
	counts := make([]map[string]int, 12)
	t.Run("all", func(t *testing.T) {
		for run := range counts {
			counts[run] = map[string]int{}
			t.Run(fmt.Sprint(run), func(t *testing.T) {
				t.Parallel()
				lim := api.Limits{Peers: 1 + run%3, Prekeys: 64, Skip: 1 + run%4, Skips: 3 + run%6, Outbox: 9, Counter: 1000}
				c := &crowd{newBench(t, 2+run%3, lim), rand.New(rand.NewSource(int64(2408 + run))), lim, map[place]*ear{}, map[place]int{}, map[int]int{}, counts[run]}
				c.drawn = 100_000 * run
				for k := range c.bench.r.spots {
					c.goes(lineOf("create %d 20 *", k+1))
				}
				for n := range 250 {
					c.steps(fmt.Sprint("step ", n))
				}
			})
		}
	})
	all := map[string]int{}
	for _, c := range counts {
		for what, n := range c {
			all[what] += n
		}
	}
	for what, least := range map[string]int{"taken: true": 300, "taken: false": 100, "taken by a disk that gave up": 20, "Open gave up": 10, "keys are skipped": 50} {
		if all[what] < least {
			t.Errorf("%q was met %d times alone", what, all[what])
		}
	}
}
