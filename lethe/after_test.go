package lethe_test

import (
	"fmt"
	"math/rand"
	"slices"
	"strings"
	"testing"

	"lethe/api"
	"lethe/lethe"
)

// firstLines: so many of a text, each ended.
func firstLines(text string, n int) string {
	return strings.Join(strings.SplitAfter(text, "\n")[:n], "")
}

// P28.6: later lines change no answer ahead of them: whatever follows the first steps, or nothing.
func TestNoLookAhead(t *testing.T) {
	for seed := range 8 {
		t.Run(fmt.Sprint(seed), func(t *testing.T) {
			t.Parallel()
			a := drawnAuthor(t, 600+seed).writes(60)
			told := a.answersTold()
			for _, k := range []int{0, 1, 2, 5, 11, 20, 33, 47, len(a.steps)} {
				first := slices.Clone(a.steps[:k])
				tails := [][]api.Step{nil, a.steps[k:], a.steps[:k], drawnSteps(a.r, 30), {{Kind: 13, Node: 1}, {Kind: 13, Node: 2}}, {{Kind: 1, Node: 1, A: 30}, {Kind: 11, Node: 2, A: 1}, {Kind: 10, Node: 1, Peer: 2}}}
				for i, tail := range tails {
					script := scriptOf(a.nodes, a.lim, slices.Concat(first, tail))
					got, line, e := lethe.Run(script)
					if line != 0 || e != 0 || !strings.HasPrefix(got, firstLines(told, k)) {
						t.Fatalf("P28.6: %d steps and tail %d: line %d, error %d\n%s\nwant ahead\n%s", k, i, line, e, got, firstLines(told, k))
					}
				}
			}
		})
	}
}

// skippedIn: the script with skipped lines put in, and for each of its lines (from 1 on) which one it is now.
func skippedIn(r *rand.Rand, script string) (string, []int) {
	var out strings.Builder
	at := []int{0}
	lines := strings.Split(script, "\n")
	number := 1
	for i, line := range lines {
		more := drawnSkips(r)
		number += strings.Count(more, "\n")
		at = append(at, number)
		out.WriteString(more + line)
		if i < len(lines)-1 {
			out.WriteString("\n")
			number++
		}
	}
	return out.String(), at
}

// P28.6: skipped lines put in anywhere change nothing.
func TestSkippedLines(t *testing.T) {
	for seed := range 6 {
		a := drawnAuthor(t, 700+seed).writes(50)
		want := a.answersTold() + a.endTold()
		for range 12 {
			more, _ := skippedIn(a.r, a.script())
			isRunAs(t, "with skipped lines", more, want)
			isTaken(t, more)
		}
		lines := strings.SplitAfter(a.script(), "\n")
		for i := range lines {
			isRunAs(t, "with a comment", strings.Join(lines[:i], "")+"# "+lines[i]+strings.Join(lines[i:], "")+"\n#", want)
		}
		isRunAs(t, "as long as may be", filled(a.script(), mostBytes), want)
		isRunAs(t, "without its last line's end", strings.TrimSuffix(a.script(), "\n"), want)
	}
}

// P28.6: of a script with a fault they change the number of the fault's line alone.
func TestSkippedLinesOfFaults(t *testing.T) {
	r := rand.New(rand.NewSource(286))
	full := head + "\n" + strings.Repeat("drop 0\n", mostSteps)
	for _, x := range []struct {
		script string
		line   int
		e      api.Errno
	}{
		{"", 1, badScript}, {"\n\n", 3, badScript}, {"close 1\n" + head, 1, badScript}, {"\n#\nrooms 1", 3, badScript}, {"room 2 1 1 1 1 1", 1, badArg}, {head + "\nclose 1\ntick\nclose", 3, badWord}, {head + "\nclose 1\n\n\nclose 1 1\n", 5, badArg}, {head + "\n" + head, 2, badWord},
		{full + "nonsense", mostSteps + 2, tooMany}, {full + "\n\ndrop 0\nnonsense", mostSteps + 4, tooMany},
	} {
		isFault(t, x.script, x.line, x.e)
		for range 30 {
			more, at := skippedIn(r, x.script)
			isFault(t, more, at[x.line], x.e)
		}
	}
	for _, x := range []struct {
		script string
		line   int
		e      api.Errno
	}{
		{"room 5 1 1 1 1 1 9\nclose 1", 1, noNode}, {"\n\nroom 2 1 1 1 1 65 9\nclose 1\n", 3, noLimits},
	} {
		for range 30 {
			more, at := skippedIn(r, x.script)
			if got, line, e := lethe.Run(more); got != "" || line != at[x.line] || e != x.e {
				t.Errorf("P28.6: Run(%q): %q, line %d, error %d, want line %d, error %d", more, got, line, e, at[x.line], x.e)
			}
		}
	}
}

// reopened: a close of a node and its boot.
func reopened(node int) []api.Step {
	return []api.Step{{Kind: 13, Node: node}, {Kind: 12, Node: node}}
}

// quiet: an author whose disks never give up, and that has written so many steps; and which nodes ran ahead of each step, and behind the last one.
func quiet(t *testing.T, seed, steps int) (*author, [][]int) {
	t.Helper()
	a := drawnAuthor(t, seed)
	a.crashes = false
	return a, a.writesNoting(steps)
}

// writesNoting: which nodes run is noted ahead of each step.
func (a *author) writesNoting(steps int) [][]int {
	running := func() []int {
		var list []int
		for _, v := range a.w.Views() {
			if v.Up {
				list = append(list, v.Node)
			}
		}
		return list
	}
	var noted [][]int
	for k := range a.nodes {
		noted = append(noted, running())
		a.plays(api.Step{Kind: 1, Node: k + 1, A: []int{20, 5, 3}[a.r.Intn(3)], Draw: a.draw()})
	}
	for range steps {
		noted = append(noted, running())
		a.plays(a.next())
	}
	return append(noted, running())
}

// isReopened: with a close and a boot of the nodes put in ahead of those steps, all else is told as it was.
func isReopened(t *testing.T, a *author, in map[int][]int) {
	t.Helper()
	var steps []api.Step
	var put []bool // of each step: it was put in
	for i := range len(a.steps) + 1 {
		for _, node := range in[i] {
			steps, put = append(steps, reopened(node)...), append(put, true, true)
		}
		if i < len(a.steps) {
			steps, put = append(steps, a.steps[i]), append(put, false)
		}
	}
	got, line, e := lethe.Run(scriptOf(a.nodes, a.lim, steps))
	if line != 0 || e != 0 {
		t.Fatalf("P28.7: line %d, error %d", line, e)
	}
	rest := ""
	for i, told := range strings.SplitAfter(got, "\n") {
		if i >= len(put) || !put[i] {
			rest += told
			continue
		}
		if !strings.HasPrefix(told, "0 ") {
			t.Fatalf("P28.7: a close or a boot that was put in: %q", told)
		}
	}
	if want := a.answersTold() + a.endTold(); rest != want {
		t.Fatalf("P28.7: nodes %v closed and opened again:\n%s\nwant\n%s\nof\n%s", in, rest, want, scriptOf(a.nodes, a.lim, steps))
	}
}

// P28.7: a close of a node that runs and then its boot, put in anywhere together, change nothing else.
func TestReopened(t *testing.T) {
	for seed := range 6 {
		t.Run(fmt.Sprint(seed), func(t *testing.T) {
			t.Parallel()
			a, running := quiet(t, 800+seed, 40)
			isReopened(t, a, nil)
			all := map[int][]int{}
			pairs := 0
			for i, nodes := range running {
				for _, node := range nodes {
					isReopened(t, a, map[int][]int{i: {node}})
					pairs++
				}
				isReopened(t, a, map[int][]int{i: nodes})
				all[i] = slices.Concat(nodes, nodes)
			}
			isReopened(t, a, all)
			if pairs < 40 {
				t.Errorf("%d places alone", pairs)
			}
		})
	}
}

// P28.7: of a script that is as long as may be, too.
func TestReopenedAtTheEdge(t *testing.T) {
	a := newAuthor(t, 900, 2, api.Limits{Peers: 1, Prekeys: 1, Skip: 1, Skips: 1, Outbox: 3, Counter: 9})
	a.crashes = false
	running := a.writesNoting(20)
	for len(a.steps) < mostSteps-2 {
		running = append(running, running[len(running)-1])
		a.plays(api.Step{Kind: 15, Node: 1 + len(a.steps)%2, Peer: 2 - len(a.steps)%2})
	}
	for _, i := range []int{3, 20, 2000, mostSteps - 2} {
		for _, node := range running[i] {
			isReopened(t, a, map[int][]int{i: {node}})
		}
	}
	steps := slices.Concat(a.steps, reopened(1), reopened(2))
	if got, line, e := lethe.Run(textOf(head) + linesOf(steps)); got != "" || line != mostSteps+2 || e != tooMany {
		t.Errorf("P28.2: %d steps: %.40q, line %d, error %d", len(steps), got, line, e)
	}
}

// linesOf: of steps, each ended.
func linesOf(steps []api.Step) string {
	out := ""
	for _, s := range steps {
		out += lineOf(s) + "\n"
	}
	return out
}
