package world_test

import (
	"fmt"
	"math"
	"slices"
	"testing"

	"lethe/api"
	"lethe/world"
)

// isRefusedNew: New and Run refuse these nodes and limits.
func isRefusedNew(t *testing.T, nodes int, lim api.Limits, want api.Errno) {
	t.Helper()
	if w, e := world.New(nodes, lim); w != nil || e != want {
		t.Errorf("P24.1: New(%d, %v): error %d, world %v, want %d", nodes, lim, e, w, want)
	}
	if answers, views, e := world.Run(nodes, lim, make([]api.Step, 3)); len(answers) != 0 || len(views) != 0 || e != want {
		t.Errorf("P24.1: Run(%d, %v): %v, %v, error %d, want %d", nodes, lim, answers, views, e, want)
	}
}

// limitsWith: wide ones, but for one of the first five, which is n.
func limitsWith(which, n int) api.Limits {
	lim := wide()
	*[]*int{&lim.Peers, &lim.Prekeys, &lim.Skip, &lim.Skips, &lim.Outbox}[which] = n
	return lim
}

// P24.1: nodes and limits at their bounds and past them; with both wrong the nodes are told.
func TestNew(t *testing.T) {
	wrong := limitsWith(0, 0)
	for _, nodes := range append(farNumbers(), 0, 1, 5, 6) {
		isRefusedNew(t, nodes, narrow(), 240)
		isRefusedNew(t, nodes, wrong, 240)
		isRefusedNew(t, nodes, api.Limits{}, 240)
	}
	for which, bounds := range [][2]int{{1, 16}, {1, 64}, {0, 64}, {0, 256}, {1, 64}} {
		for _, n := range append(farNumbers(), bounds[0]-1, bounds[1]+1) {
			isRefusedNew(t, 2, limitsWith(which, n), 2)
		}
		for _, n := range bounds {
			newBench(t, 2, limitsWith(which, n)).goes("create 1 3 *")
		}
	}
	lim := wide()
	for _, counter := range []uint32{1, 1<<32 - 1} {
		lim.Counter = counter
		newBench(t, 2, lim).goes("create 1 3 *")
	}
	lim.Counter = 0
	isRefusedNew(t, 2, lim, 2)
	for nodes := 2; nodes <= 4; nodes++ {
		isRefusedNew(t, nodes, wrong, 2)
		w := newBench(t, nodes, narrow()).w
		want := []api.View{{Node: 1}, {Node: 2}, {Node: 3}, {Node: 4}}[:nodes]
		if views := w.Views(); !slices.Equal(views, want) || len(w.Flights()) != 0 {
			t.Errorf("P24.1: a new world of %d: views %v, flights %v", nodes, views, w.Flights())
		}
		for _, k := range append(badNodes(nodes), 1, nodes) {
			code := map[bool]api.Errno{true: 242, false: 240}[k >= 1 && k <= nodes]
			if image, e := w.Image(k); len(image) != 0 || e != code {
				t.Errorf("P24.1: Image(%d): %d bytes, error %d, want %d", k, len(image), e, code)
			}
			if list, e := w.Records(k); len(list) != 0 || e != code {
				t.Errorf("P24.1: Records(%d): %v, error %d, want %d", k, list, e, code)
			}
		}
	}
}

// P24.1: Image and Records of nodes in each state, at all numbers.
func TestImageAndRecords(t *testing.T) {
	b := newBench(t, 4, narrow())
	b.goes("create 1 5 *", "create 2 5 *", "create 3 5 *", "close 2", "arm 3 1 - -1 0")
	b.is("publish 3 1 *", 80, 0, 0, "")
	for _, k := range badNodes(4) {
		if image, e := b.w.Image(k); len(image) != 0 || e != 240 {
			t.Errorf("P24.1: Image(%d): %d bytes, error %d", k, len(image), e)
		}
		if list, e := b.w.Records(k); len(list) != 0 || e != 240 {
			t.Errorf("P24.1: Records(%d): %v, error %d", k, list, e)
		}
	}
	for k, want := range [][2]api.Errno{1: {0, 0}, 2: {0, 220}, 3: {0, 80}, 4: {242, 242}} {
		if k == 0 {
			continue
		}
		image, e := b.w.Image(k)
		if e != want[0] || e == 0 && len(image) != 21*512 {
			t.Errorf("P24.1: Image(%d): %d bytes, error %d, want %d", k, len(image), e, want[0])
		}
		list, e := b.w.Records(k)
		if e != want[1] || len(list) != map[bool]int{true: 3}[e == 0] {
			t.Errorf("P24.1: Records(%d): %d, error %d, want %d", k, len(list), e, want[1])
		}
	}
	want := []api.View{{Node: 1, Up: true, Created: true, Pages: 1}, {Node: 2, Created: true}, {Node: 3, Created: true}, {Node: 4}}
	if views := b.w.Views(); !slices.Equal(views, want) {
		t.Errorf("P24.1: Views %+v, want %+v", views, want)
	}
}

// P24.1: kinds below, at and past their bounds, whatever the other fields are.
func TestKinds(t *testing.T) {
	b := newBench(t, 2, narrow())
	b.goes("create 1 5 *")
	for _, kind := range append(farNumbers(), 0, 16, 17, 255, 256, 257) {
		for _, s := range []api.Step{{Kind: kind}, {Kind: kind, Node: 1, Peer: 2, A: 5, Draw: b.draw()}, {Kind: kind, Node: math.MinInt, Peer: 9, A: -1, B: 7, Text: make([]byte, 600)}} {
			if a := b.plays(fmt.Sprint("kind ", kind), s); a != (api.Answer{Code: 244}) {
				t.Errorf("P24.1: kind %d: %s", kind, told(a))
			}
		}
	}
	for kind := 1; kind <= 15; kind++ {
		want := api.Answer{Code: 240}
		if kind >= 5 && kind <= 7 {
			want.Code = 230
		}
		if a := b.plays(fmt.Sprint("kind ", kind), api.Step{Kind: kind}); a != want {
			t.Errorf("P24.1: kind %d of no fields: %s", kind, told(a))
		}
	}
}

// someScript: steps that are taken and such that are not.
func someScript(t *testing.T) []api.Step {
	t.Helper()
	b := newBench(t, 3, narrow())
	var steps []api.Step
	for _, line := range []string{
		"create 1 5 *", "create 2 3 *", "send 3 1 - -", "publish 2 1 *", "publish 2 1 *", "publish 2 1 *", "initiate 1 2 * * 'hi 'data", "copy 0", "send 1 2 'more -", "deliver 2 * -", "deliver 0 * 'data", "deliver 1 * 'data",
		"arm 2 9 ffffffffffffffff 1 9", "send 2 1 'yes -", "boot 2 3 0000000000000001 0 0", "boot 2 0 - 0 0", "replay 2 1", "deliver 3 * -", "deliver 4 * -", "status 1 2", "status 2 1", "close 1", "junk 2 1 'junk * -", "forget 2 1", "send 1 2 - -", "initiate 1 2 * * - -",
	} {
		steps = append(steps, b.step(line))
	}
	return steps
}

// isGivenBack: what Run was lent is as it was.
func isGivenBack(t *testing.T, lent, steps []api.Step) {
	t.Helper()
	for i, s := range whole(lent) {
		was := lentStep(steps[i])
		same := sameStep(s, was)
		s.Text, s.Data, s.Loss.Keep, was.Text, was.Data, was.Loss.Keep = nil, nil, nil, nil, nil, nil
		if !same || fmt.Sprint(s) != fmt.Sprint(was) {
			t.Errorf("rule 2: Run of %d: step %d is another one", len(lent), i)
		}
	}
}

// P24.1: Run answers what Play and Views do in a new world, each time anew, and leaves the steps as they were.
func TestRun(t *testing.T) {
	steps := someScript(t)
	b := newBench(t, 3, narrow())
	var answers []api.Answer
	for n := range len(steps) + 1 {
		var lent []api.Step
		for _, s := range steps {
			lent = append(lent, lentStep(s))
		}
		lent = slices.Clip(lent)[:n]
		got, views, e := world.Run(3, narrow(), lent)
		isGivenBack(t, lent, steps)
		if e != 0 || !slices.Equal(got, answers) || !slices.Equal(views, b.w.Views()) {
			t.Fatalf("P24.1: Run of %d: answers %v, want %v; views %v, want %v; error %d", n, got, answers, views, b.w.Views(), e)
		}
		if again, more, _ := world.Run(3, narrow(), lent); !slices.Equal(got, again) || !slices.Equal(views, more) {
			t.Errorf("rule 5: Run of %d: others the second time", n)
		}
		if n < len(steps) {
			answers = append(answers, b.plays(fmt.Sprint("step ", n), steps[n]))
		}
	}
	var codes []int
	for _, a := range answers {
		codes = append(codes, int(a.Code))
	}
	if want := "[0 0 242 0 0 191 0 0 0 0 0 161 0 80 80 0 0 0 230 0 0 0 140 0 220 220]"; fmt.Sprint(codes) != want {
		t.Errorf("P24.1: the codes are %v, want %s", codes, want)
	}
}

// P24.1: Run of MaxSteps steps, and of one more, which is told ahead of all that New refuses.
func TestRunOfMany(t *testing.T) {
	steps := make([]api.Step, 4097)
	for i := range steps {
		steps[i] = api.Step{Kind: 1 + i%20, Node: 1 + i%3, Peer: 1 + i%2, A: i % 7, Draw: draw(i)}
	}
	answers, views, e := world.Run(2, narrow(), steps[:4096])
	if len(answers) != 4096 || len(views) != 2 || e != 0 || !views[0].Created || !views[1].Created {
		t.Errorf("P24.1: Run of 4096: %d answers, views %v, error %d", len(answers), views, e)
	}
	w, _ := world.New(2, narrow())
	for i := range answers {
		if a := w.Play(steps[i]); a != answers[i] {
			t.Fatalf("P24.1: Run of 4096: answer %d is %s, want %s", i, told(answers[i]), told(a))
		}
	}
	for nodes, lim := range []api.Limits{narrow(), narrow(), narrow(), {}, wide()} {
		if answers, views, e := world.Run(nodes, lim, steps); len(answers) != 0 || len(views) != 0 || e != 283 {
			t.Errorf("P24.1: Run of 4097 with %d nodes: %d answers, views %v, error %d", nodes, len(answers), views, e)
		}
	}
	if answers, views, e := world.Run(4, narrow(), nil); len(answers) != 0 || len(views) != 4 || e != 0 {
		t.Errorf("P24.1: Run of no steps: %v, %v, error %d", answers, views, e)
	}
}

// P24.1: disks at their bounds: wal.Need's sectors; one page has no room for a client, and its node is not created then.
func TestCreateSizes(t *testing.T) {
	b := newBench(t, 4, narrow())
	b.is("create 1 1 *", 120, 0, 0, "")
	if v := b.w.Views()[0]; v != (api.View{Node: 1}) {
		t.Errorf("P24.1: behind a refused Create: %+v", v)
	}
	b.is("status 1 2", 242, 0, 0, "")
	for node, pages := range map[int]int{1: 2, 2: 3, 3: 249, 4: 250} {
		b.is(lineOf("create %d %d *", node, pages), 0, 0, 0, "+")
		if image, e := b.w.Image(node); e != 0 || len(image) != 512*(4*pages+1) {
			t.Errorf("P24.1: a disk of %d pages: error %d, %d bytes", pages, e, len(image))
		}
		b.is(lineOf("create %d 1 *", node), 241, 0, 0, "")
		b.is(lineOf("create %d 251 *", node), 4, 0, 0, "")
	}
}
