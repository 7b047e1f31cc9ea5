package lethe_test

import (
	"math"
	"slices"
	"strings"
	"testing"

	"lethe/api"
	"lethe/lethe"
)

func oneLimits() api.Limits {
	return api.Limits{Peers: 1, Prekeys: 1, Skip: 1, Skips: 1, Outbox: 1, Counter: 9}
}

// isPrinted: Print answers this script, of a copy with spare room too.
func isPrinted(t *testing.T, nodes int, lim api.Limits, steps []api.Step, want string) {
	t.Helper()
	for _, list := range [][]api.Step{steps, lent(steps)} {
		if got, e := lethe.Print(nodes, lim, list); got != want || e != 0 {
			t.Errorf("P28.3: Print(%d, %v, %.200v): %.200q, error %d, want %.200q", nodes, lim, steps, got, e, want)
		}
	}
}

// isRefused: Print answers this error, and nothing else.
func isRefused(t *testing.T, nodes int, lim api.Limits, steps []api.Step, e api.Errno) {
	t.Helper()
	for _, list := range [][]api.Step{steps, lent(steps)} {
		if got, code := lethe.Print(nodes, lim, list); got != "" || code != e {
			t.Errorf("P28.3: Print(%d, %v, %.200v): %.200q, error %d, want %d", nodes, lim, steps, got, code, e)
		}
	}
}

// P28.3: each kind, with its fields and with none.
func TestPrintKinds(t *testing.T) {
	zeros := map[rune]string{'d': strings.Repeat("0", 64), 'o': strings.Repeat("0", 64), 't': "-", 'x': "-", 'k': "-"}
	var steps []api.Step
	var lines []string
	for _, f := range forms {
		s := commonStep(f)
		line := joined(f.word, commonArguments(f))
		isPrinted(t, 2, oneLimits(), []api.Step{s}, textOf(head, line))
		steps, lines = append(steps, s), append(lines, line)
		empty := f.word
		for _, c := range f.fields {
			zero := zeros[c]
			if zero == "" {
				zero = "0"
			}
			empty += " " + zero
		}
		isPrinted(t, 2, oneLimits(), []api.Step{{Kind: f.kind}}, textOf(head, empty))
		isPrinted(t, 2, oneLimits(), []api.Step{{Kind: f.kind, Text: []byte{}, Data: []byte{}, Loss: api.Loss{Keep: []uint64{}}}}, textOf(head, empty))
	}
	isPrinted(t, 2, oneLimits(), steps, textOf(append([]string{head}, lines...)...))
	slices.Reverse(steps)
	slices.Reverse(lines)
	isPrinted(t, 2, oneLimits(), steps, textOf(append([]string{head}, lines...)...))
	isPrinted(t, 2, oneLimits(), nil, head+"\n")
	isPrinted(t, 2, oneLimits(), []api.Step{}, head+"\n")
}

// P28.3: each argument of each kind, in its one form.
func TestPrintArguments(t *testing.T) {
	for _, f := range forms {
		for i, c := range f.fields {
			for _, part := range rightOf(c) {
				s := commonStep(f)
				set(&s, c, part)
				parts := commonArguments(f)
				parts[i] = part
				isPrinted(t, 2, oneLimits(), []api.Step{s}, textOf(head, joined(f.word, parts)))
			}
		}
	}
}

// others: a step's values that its line would lose, each in one field alone.
func others(c rune) []api.Step {
	key := func(at int) api.Key {
		var k api.Key
		k[at] = 1
		return k
	}
	var list []api.Step
	for _, n := range []int{1, -1, 256, 1 << 32, -1 << 32, 1000000000000000000, math.MaxInt, math.MinInt} {
		switch c {
		case 'n':
			list = append(list, api.Step{Node: n})
		case 'p':
			list = append(list, api.Step{Peer: n})
		case 'a':
			list = append(list, api.Step{A: n})
		case 'b':
			list = append(list, api.Step{B: n})
		case 'r':
			list = append(list, api.Step{Loss: api.Loss{Torn: n}})
		case 'f':
			list = append(list, api.Step{Loss: api.Loss{Offset: n}})
		}
	}
	for _, at := range []int{0, 7, 31} {
		switch c {
		case 'd':
			list = append(list, api.Step{Draw: key(at)})
		case 'o':
			list = append(list, api.Step{Other: key(at)})
		}
	}
	for _, b := range [][]byte{{0}, {1}, {0, 0, 0}} {
		switch c {
		case 't':
			list = append(list, api.Step{Text: b})
		case 'x':
			list = append(list, api.Step{Data: b})
		}
	}
	if c == 'k' {
		list = append(list, api.Step{Loss: api.Loss{Keep: []uint64{0}}}, api.Step{Loss: api.Loss{Keep: []uint64{1}}}, api.Step{Loss: api.Loss{Keep: []uint64{0, 0}}})
	}
	return list
}

// merged: a step with one more field.
func merged(s, more api.Step, c rune) api.Step {
	if c == 'b' {
		s.B = more.B
		return s
	}
	set(&s, c, told(more, c))
	return s
}

// P28.3: each field that is not the kind's, in turn.
func TestPrintExtra(t *testing.T) {
	for _, f := range forms {
		for _, c := range allFields + "b" {
			if strings.ContainsRune(f.fields, c) {
				continue
			}
			for _, more := range others(c) {
				for _, s := range []api.Step{{Kind: f.kind}, commonStep(f)} {
					s = merged(s, more, c)
					isRefused(t, 2, oneLimits(), []api.Step{s}, extra)
					isRefused(t, 2, oneLimits(), []api.Step{{Kind: 13}, s, {Kind: 6}}, extra)
				}
			}
		}
		s := commonStep(f)
		if !strings.Contains(f.fields, "t") {
			s.Text = []byte{1, 2}[:0]
		}
		if !strings.Contains(f.fields, "x") {
			s.Data = []byte{1, 2}[2:]
		}
		if !strings.Contains(f.fields, "k") {
			s.Loss.Keep = []uint64{1}[:0]
		}
		isPrinted(t, 2, oneLimits(), []api.Step{s}, textOf(head, joined(f.word, commonArguments(f))))
	}
}

// P28.3: kinds that the table doesn't have, whatever else the step holds.
func TestPrintNoKind(t *testing.T) {
	for _, kind := range []int{0, -1, 16, 17, 255, 256, 257, 1<<32 + 1, -1 << 32, -15, math.MaxInt, math.MinInt, math.MinInt + 1} {
		for _, s := range []api.Step{{}, {B: 1}, {Node: 1, A: 1000000000000000000}, commonStep(forms[2]), {Text: []byte{1}}} {
			s.Kind = kind
			isRefused(t, 2, oneLimits(), []api.Step{s}, noStep)
			isRefused(t, 2, oneLimits(), []api.Step{{Kind: 13}, s}, noStep)
		}
	}
}

// longNumbers: of more than 18 digits; shortNumbers: of no more.
func longNumbers() []int {
	return []int{1000000000000000000, -1000000000000000000, 1000000000000000001, -1000000000000000001, 9223372036854775807, -9223372036854775807, -9223372036854775808, 1 << 60, -1 << 62, 2000000000000000000}
}

func shortNumbers() []int {
	return []int{0, 1, -1, 999999999999999999, -999999999999999999, 100000000000000000, -100000000000000000, 999999999999999998, 1 << 59, -1 << 59, 4294967296}
}

// P28.3: a number of 18 digits is written, one of 19 is not, in each place where one is.
func TestPrintNumbers(t *testing.T) {
	for _, f := range forms {
		for _, c := range f.fields {
			if !isNumber(c) {
				continue
			}
			for _, n := range shortNumbers() {
				s := commonStep(f)
				set(&s, c, told(api.Step{A: n}, 'a'))
				isPrinted(t, 2, oneLimits(), []api.Step{s}, textOf(head, lineOf(s)))
			}
			for _, n := range longNumbers() {
				s := commonStep(f)
				set(&s, c, told(api.Step{A: n}, 'a'))
				isRefused(t, 2, oneLimits(), []api.Step{s}, badArg)
				isRefused(t, 2, oneLimits(), []api.Step{{Kind: 6}, s, {Kind: 6}}, badArg)
				s.B = 1
				isRefused(t, 2, oneLimits(), []api.Step{s}, extra)
			}
		}
	}
}

// setHead: number i of the head's seven.
func setHead(i, n int, nodes *int, lim *api.Limits) {
	*[]*int{nodes, &lim.Peers, &lim.Prekeys, &lim.Skip, &lim.Skips, &lim.Outbox}[i] = n
}

// P28.3: the head's numbers, each in its place; whether a world takes them is not asked.
func TestPrintHead(t *testing.T) {
	lim := api.Limits{Peers: 11, Prekeys: 12, Skip: -13, Skips: 14, Outbox: 15, Counter: 16}
	isPrinted(t, 3, lim, nil, "room 3 11 12 -13 14 15 16\n")
	isPrinted(t, 0, api.Limits{}, nil, "room 0 0 0 0 0 0 0\n")
	isPrinted(t, -1, api.Limits{Counter: 1<<32 - 1}, nil, "room -1 0 0 0 0 0 4294967295\n")
	for i := range 6 {
		for _, n := range shortNumbers() {
			nodes, l := 3, lim
			setHead(i, n, &nodes, &l)
			parts := strings.Split("room 3 11 12 -13 14 15 16", " ")
			parts[1+i] = told(api.Step{A: n}, 'a')
			isPrinted(t, nodes, l, []api.Step{{Kind: 13, Node: 1}}, strings.Join(parts, " ")+"\nclose 1\n")
		}
		for _, n := range longNumbers() {
			nodes, l := 3, lim
			setHead(i, n, &nodes, &l)
			isRefused(t, nodes, l, nil, badArg)
			isRefused(t, nodes, l, []api.Step{{Kind: 13, Node: 1}}, badArg)
		}
	}
}

// P28.3: api.MaxSteps steps are written, one more is refused ahead of all else.
func TestPrintMostSteps(t *testing.T) {
	steps := slices.Repeat([]api.Step{{Kind: 13, Node: 1}}, mostSteps+1)
	isPrinted(t, 2, oneLimits(), steps[:mostSteps], head+"\n"+strings.Repeat("close 1\n", mostSteps))
	isRefused(t, 2, oneLimits(), steps, tooMany)
	isRefused(t, 1000000000000000000, oneLimits(), steps, tooMany)
	isRefused(t, 1000000000000000000, oneLimits(), steps[:mostSteps], badArg)
	for _, s := range []api.Step{{}, {Kind: 13, A: 1}, {Kind: 6, A: 1000000000000000000}} {
		for _, at := range []int{0, mostSteps - 1, mostSteps} {
			list := slices.Clone(steps)
			list[at] = s
			isRefused(t, 2, oneLimits(), list, tooMany)
		}
		list := slices.Clone(steps)[:mostSteps]
		list[mostSteps-1] = s
		isRefused(t, 2, oneLimits(), list, wordsFault(s))
	}
}

// P28.3: of two faults the first: the head's, then the steps from the first on, and of one step the one that is named first.
func TestPrintFirstFault(t *testing.T) {
	long := 1000000000000000000
	faults := map[api.Errno][]api.Step{
		noStep: {{}, {Kind: 16, B: 1}, {Kind: -1, A: long}},
		extra:  {{Kind: 13, A: 1}, {Kind: 6, A: long, B: 1}, {Kind: 13, Node: long, A: long}, {Kind: 4, Node: long, Other: api.Key{1}}, {Kind: 5, A: 1, Loss: api.Loss{Offset: 1}}},
		badArg: {{Kind: 6, A: long}, {Kind: 15, Peer: -long}, {Kind: 12, Loss: api.Loss{Torn: long, Keep: []uint64{1}}}},
	}
	right := api.Step{Kind: 13, Node: 1}
	for one, list := range faults {
		for _, s := range list {
			for two := range faults {
				for _, r := range faults[two] {
					isRefused(t, 2, oneLimits(), []api.Step{s, r}, one)
					isRefused(t, 2, oneLimits(), []api.Step{right, s, right, r}, one)
				}
			}
			isRefused(t, long, oneLimits(), []api.Step{s}, badArg)
			isRefused(t, 2, api.Limits{Outbox: -long}, []api.Step{s}, badArg)
		}
	}
}
