package lethe_test

import (
	"fmt"
	"math"
	"math/rand"
	"slices"
	"strings"
	"testing"

	"lethe/api"
	"lethe/lethe"
)

// drawnNumber: small ones above all, and of all lengths.
func drawnNumber(r *rand.Rand) int {
	n := 0
	switch r.Intn(4) {
	case 0:
		n = r.Intn(5)
	case 1:
		n = r.Intn(1 << 20)
	case 2:
		n = int(r.Uint64() % uint64(math.Pow10(1+r.Intn(18))))
	case 3:
		n = int(math.Pow10(r.Intn(18))) - r.Intn(2)
	}
	if r.Intn(4) == 0 {
		n = -n
	}
	return n
}

func drawnBytes(r *rand.Rand, most int) []byte {
	if r.Intn(3) == 0 {
		return nil
	}
	b := make([]byte, r.Intn(most+1))
	r.Read(b)
	return b
}

// drawnStep: with all its kind's fields, and no others.
func drawnStep(r *rand.Rand) api.Step {
	f := forms[r.Intn(len(forms))]
	s := api.Step{Kind: f.kind}
	for _, c := range f.fields {
		var more api.Step
		r.Read(more.Draw[:])
		r.Read(more.Other[:])
		more.Node, more.Peer, more.A, more.Loss.Torn, more.Loss.Offset = drawnNumber(r), drawnNumber(r), drawnNumber(r), drawnNumber(r), drawnNumber(r)
		more.Text, more.Data = drawnBytes(r, 40), drawnBytes(r, 9)
		for range r.Intn(4) {
			more.Loss.Keep = append(more.Loss.Keep, r.Uint64()>>r.Intn(64))
		}
		set(&s, c, told(more, c))
	}
	return s
}

func drawnHead(r *rand.Rand) (int, api.Limits) {
	return drawnNumber(r), api.Limits{Peers: drawnNumber(r), Prekeys: drawnNumber(r), Skip: drawnNumber(r), Skips: drawnNumber(r), Outbox: drawnNumber(r), Counter: r.Uint32() >> r.Intn(32)}
}

func drawnSteps(r *rand.Rand, most int) []api.Step {
	var steps []api.Step
	for range r.Intn(most + 1) {
		steps = append(steps, drawnStep(r))
	}
	return steps
}

// P28.4: Parse of what Print gives is what was printed.
func TestPrintedIsParsed(t *testing.T) {
	r := rand.New(rand.NewSource(281))
	for range 2000 {
		nodes, lim := drawnHead(r)
		steps := drawnSteps(r, 12)
		script, e := lethe.Print(nodes, lim, steps)
		if e != 0 || script != scriptOf(nodes, lim, steps) {
			t.Fatalf("P28.3: Print(%d, %v, %v): %q, error %d", nodes, lim, steps, script, e)
		}
		if got, want := parse(script), (answer{nodes: nodes, lim: lim, steps: steps}); !got.is(want) {
			t.Fatalf("P28.4: Parse(%q): %v, want %v", script, got, want)
		}
	}
}

// P28.4: what is printed may have more than api.MaxScript bytes: Parse refuses it then; with just as many it does not.
func TestPrintedTooLong(t *testing.T) {
	lim := oneLimits()
	start := len(head + "\nsend 1 2  -\n")
	for _, more := range []int{0, 1, 2} {
		steps := []api.Step{{Kind: 4, Node: 1, Peer: 2, Text: make([]byte, (mostBytes-start)/2-1+more)}}
		pad := (mostBytes - start) % 2 // an odd rest is made up by a number of two digits
		if pad == 1 {
			steps[0].Node = 10
		}
		script, e := lethe.Print(2, lim, steps)
		if e != 0 || len(script) != mostBytes-2+2*more {
			t.Fatalf("P28.3: a long text: %d bytes, error %d", len(script), e)
		}
		want := answer{nodes: 2, lim: lim, steps: steps}
		if more == 2 {
			want = answer{e: badScript}
		}
		if got := parse(script); !got.is(want) {
			t.Errorf("P28.4: of %d bytes: line %d, error %d", len(script), got.line, got.e)
		}
	}
	many := slices.Repeat([]api.Step{{Kind: 13, Node: 1}}, mostSteps)
	script, _ := lethe.Print(2, lim, many)
	if got := parse(script); !got.is(answer{nodes: 2, lim: lim, steps: many}) {
		t.Errorf("P28.4: of %d steps: line %d, error %d", mostSteps, got.line, got.e)
	}
}

// drawnSkips: some lines that are skipped, each ended.
func drawnSkips(r *rand.Rand) string {
	out := ""
	for range r.Intn(3) {
		out += []string{"\n", "#\n", "# \n", "#close 1\n", "##\n", "# room\r\n", "#\xff\x00\t\n", "#" + head + "\n"}[r.Intn(8)]
	}
	return out
}

// P28.4: Print of what Parse gives is the script without its skipped lines, every line ended.
func TestParsedIsPrinted(t *testing.T) {
	r := rand.New(rand.NewSource(282))
	for range 2000 {
		nodes, lim := drawnHead(r)
		bare := scriptOf(nodes, lim, drawnSteps(r, 12))
		script := ""
		for line := range strings.SplitAfterSeq(strings.TrimSuffix(bare, "\n"), "\n") {
			script += drawnSkips(r) + line
		}
		if r.Intn(2) == 0 {
			script += "\n" + drawnSkips(r)
		}
		if r.Intn(4) == 0 && strings.HasSuffix(script, "\n") {
			script += "# the last"
		}
		n, l, steps, line, e := lethe.Parse(script)
		if e != 0 || line != 0 {
			t.Fatalf("P28.2: Parse(%q): line %d, error %d", script, line, e)
		}
		if got, e := lethe.Print(n, l, steps); got != bare || e != 0 {
			t.Fatalf("P28.4: Print of Parse(%q): %q, error %d", script, got, e)
		}
	}
}

// P28.3: drawn steps, some of which have what they must not, against the words.
func TestPrintDrawn(t *testing.T) {
	r := rand.New(rand.NewSource(283))
	seen := map[api.Errno]int{}
	for range 6000 {
		nodes, lim := drawnHead(r)
		if r.Intn(12) == 0 {
			setHead(r.Intn(6), longNumbers()[r.Intn(10)], &nodes, &lim)
		}
		steps := drawnSteps(r, 5)
		for i := range steps {
			switch r.Intn(12) {
			case 0:
				steps[i].Kind = r.Intn(20) - 2
			case 1:
				c := []rune(allFields + "b")[r.Intn(11)]
				steps[i] = merged(steps[i], others(c)[0], c)
			case 2:
				c := []rune("npa")[r.Intn(3)]
				set(&steps[i], c, fmt.Sprint(longNumbers()[r.Intn(10)]))
			}
		}
		got, e := lethe.Print(nodes, lim, lent(steps))
		want, code := wordsPrint(nodes, lim, steps)
		if got != want || e != code {
			t.Fatalf("P28.3: Print(%d, %v, %v): %q, error %d, want %q, %d", nodes, lim, steps, got, e, want, code)
		}
		seen[code]++
	}
	for _, code := range []api.Errno{0, noStep, extra, badArg} {
		if seen[code] < 100 {
			t.Errorf("error %d was drawn %d times", code, seen[code])
		}
	}
}
