package lethe_test

import (
	"fmt"
	"slices"
	"strings"
	"testing"

	"lethe/api"
)

// P28.5, P2: drawn scripts, with disks that give up, boots and packets that are dropped, doubled and delayed, are told as a world that is played by hand tells them: behind every step the answers so far, the views, the images' sums and the packets on their way.
func TestRunByHand(t *testing.T) {
	counts := make([]map[string]int, 24)
	t.Run("all", func(t *testing.T) {
		for seed := range counts {
			counts[seed] = map[string]int{}
			t.Run(fmt.Sprint(seed), func(t *testing.T) {
				t.Parallel()
				a := drawnAuthor(t, seed)
				a.isRun("no step")
				a.writes(0)
				for range 50 {
					a.writes(1)
					a.isRun(fmt.Sprint(len(a.steps), " steps"))
				}
				a.writes(250)
				a.isRun("all steps")
				for i, s := range a.steps {
					counts[seed][fmt.Sprint(s.Kind, ": ", int(a.answers[i].Code))]++
				}
			})
		}
	})
	all := map[string]int{}
	for _, c := range counts {
		for what, n := range c {
			all[what] += n
		}
	}
	areMet(t, all)
}

// areMet: the scripts have met what they are drawn for.
func areMet(t *testing.T, all map[string]int) {
	t.Helper()
	for kind, codes := range []string{
		1: "0 120 240 241", 2: "0 80 191 220 240 242", 3: "0 80 210 220 245", 4: "0 5 80 120 130 200 211 220", 5: "0 50 80 160 161 164 190 211 230", 6: "0 230", 7: "0 230",
		8: "0 80 201 220", 9: "0 80 211 220", 10: "0 211", 11: "0 80 242", 12: "0 80 242 243", 13: "0 80 220 242", 14: "0 10 211", 15: "0 80 211 220 242",
	} {
		for _, code := range strings.Fields(codes) {
			if what := fmt.Sprint(kind, ": ", code); all[what] == 0 {
				t.Errorf("kind %d never answered %s", kind, code)
			}
		}
	}
	if t.Failed() {
		t.Log(all)
	}
}

// P28.5: each word does what its step does, and not what another one's does.
func TestRunOfEachWord(t *testing.T) {
	for _, f := range forms {
		for _, node := range []int{1, 2, 3, 0, -1} {
			a := newAuthor(t, 100+f.kind, 2, api.Limits{Peers: 1, Prekeys: 2, Skip: 1, Skips: 1, Outbox: 3, Counter: 9})
			for _, s := range []api.Step{
				{Kind: 1, Node: 1, A: 9, Draw: a.draw()}, {Kind: 1, Node: 2, A: 9, Draw: a.draw()}, {Kind: 2, Node: 2, Peer: 1, Draw: a.draw()}, {Kind: 2, Node: 2, Peer: 1, Draw: a.draw()},
				{Kind: 3, Node: 1, Peer: 2, Draw: a.draw(), Other: a.draw(), Text: []byte("hi"), Data: []byte{7}}, {Kind: 4, Node: 1, Peer: 2, Text: []byte("ho")},
			} {
				a.plays(s)
			}
			s := only(api.Step{Kind: f.kind, Node: node, Peer: 3 - node, A: 1, Draw: a.draw(), Other: a.draw(), Text: []byte("more"), Loss: api.Loss{Keep: []uint64{3}, Torn: 2, Offset: 40}})
			a.plays(s)
			a.isRun(f.word)
			a.plays(api.Step{Kind: 4, Node: 1, Peer: 2, Text: []byte("behind it"), Data: []byte{1, 2}})
			a.plays(api.Step{Kind: 12, Node: 1})
			a.isRun(f.word + " and what is behind it")
		}
	}
}

// crowded: a world with as many packets on their way as may be, and two more that the network refuses.
func crowded(t *testing.T) *author {
	t.Helper()
	a := newAuthor(t, 300, 2, api.Limits{Peers: 1, Prekeys: 1, Outbox: 64, Counter: 1000})
	a.plays(api.Step{Kind: 1, Node: 1, A: 40, Draw: a.draw()})
	a.plays(api.Step{Kind: 1, Node: 2, A: 40, Draw: a.draw()})
	a.plays(api.Step{Kind: 2, Node: 2, Peer: 1, Draw: a.draw()})
	a.plays(api.Step{Kind: 3, Node: 1, Peer: 2, Draw: a.draw(), Other: a.draw()})
	for range 63 {
		a.plays(api.Step{Kind: 4, Node: 1, Peer: 2})
	}
	for range 63 {
		a.plays(api.Step{Kind: 9, Node: 1, Peer: 2})
	}
	a.plays(api.Step{Kind: 8, Node: 1, Peer: 2, A: 5})
	a.plays(api.Step{Kind: 4, Node: 1, Peer: 2})
	a.plays(api.Step{Kind: 9, Node: 1, Peer: 2})
	a.plays(api.Step{Kind: 7, A: 4000})
	return a
}

// P28.5: an answer's numbers are told with an error too, where a world tells some; all packets stand at the end, by their numbers.
func TestRunCrowded(t *testing.T) {
	a := crowded(t)
	told := strings.SplitAfter(a.answersTold(), "\n")
	if last := strings.Join(told[len(told)-5:], ""); last != "0 0 0 -\n231 -1 0 -\n231 0 0 -\n231 0 0 -\n" {
		t.Fatalf("the world tells %q", last)
	}
	if n := strings.Count(a.endTold(), "\n> "); n != api.MaxFlight {
		t.Fatalf("%d packets are on their way", n)
	}
	a.isRun("crowded")
	for _, k := range []int{4095, 0, 17} {
		a.plays(api.Step{Kind: 6, A: k})
	}
	a.plays(api.Step{Kind: 9, Node: 1, Peer: 2})
	if got := a.answers[len(a.answers)-1]; got.Code != 231 || got.A != 3 {
		t.Fatalf("the world tells %v", got)
	}
	a.isRun("crowded again")
}

// P28.5: of a node that was not created no image is told, of one that doesn't run its disk's; a disk of each size has another one.
func TestRunViews(t *testing.T) {
	for _, pages := range []int{1, 2, 3, 20, 249, 250} {
		a := newAuthor(t, 400+pages, 4, oneLimits())
		a.plays(api.Step{Kind: 1, Node: 3, A: pages, Draw: a.draw()})
		a.isRun("one of four")
		a.plays(api.Step{Kind: 1, Node: 1, A: 5, Draw: a.draw()})
		a.plays(api.Step{Kind: 13, Node: 3})
		a.isRun("closed")
		a.plays(api.Step{Kind: 11, Node: 1, A: 2, Loss: api.Loss{Keep: []uint64{1}, Torn: -1}})
		a.plays(api.Step{Kind: 2, Node: 1, Peer: 2, Draw: a.draw()})
		a.isRun("down")
		lines := strings.Split(a.endTold(), "\n")
		if !strings.HasPrefix(lines[0], "= 1 1 0 0 0 0 0 ") || lines[1] != "= 2 0 0 0 0 0 0 -" || lines[3] != "= 4 0 0 0 0 0 0 -" {
			t.Errorf("the world tells %q", lines)
		}
		if up := pages > 1; up != strings.HasPrefix(lines[2], "= 3 1 0 0 0 0 0 ") {
			t.Errorf("%d pages: the world tells %q", pages, lines[2])
		}
	}
}

// P28.5, rule 5: a script's transcript hangs on the script alone: whatever was run ahead of it, or runs beside it.
func TestRunAgain(t *testing.T) {
	var scripts, wants []string
	for seed := range 8 {
		a := drawnAuthor(t, 500+seed).writes(60)
		scripts, wants = append(scripts, a.script()), append(wants, a.answersTold()+a.endTold())
	}
	for i := range scripts {
		isRunAs(t, "first", scripts[i], wants[i])
	}
	for i := range slices.Backward(scripts) {
		t.Run(fmt.Sprint(i), func(t *testing.T) {
			t.Parallel()
			isRunAs(t, "again", scripts[i], wants[i])
			isRunAs(t, "and again", scripts[i], wants[i])
		})
	}
}
