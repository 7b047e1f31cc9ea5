package lethe_test

import (
	"slices"
	"strings"
	"testing"
	"unsafe"

	"lethe/api"
	"lethe/lethe"
)

// borrowed: a script in memory that can be written over.
func borrowed(script string) (string, []byte) {
	memory := roomy([]byte(script), '7')
	return unsafe.String(unsafe.SliceData(memory), len(script)), memory
}

// spoil: a list's every place, spare room too.
func spoil[T any](list []T, with T) {
	for i := range whole(list) {
		whole(list)[i] = with
	}
}

// spoilStep: a step's every list, spare room too.
func spoilStep(s api.Step) {
	spoil(s.Text, 0xee)
	spoil(s.Data, 0xdd)
	spoil(s.Loss.Keep, 0xcccccccc)
}

func spoilSteps(steps []api.Step) {
	for _, s := range steps {
		spoilStep(s)
	}
	spoil(steps, api.Step{Kind: 99, Node: 98, Text: []byte("x")})
}

// memoryScripts: with lists of many sizes, and neighbours that have some, too.
func memoryScripts(t *testing.T) []string {
	all := []string{head, head + "\nsend 1 2 6869 6869\nsend 1 2 6869 6869\narm 1 3 00000000000000050000000000000005 0 0\narm 1 3 00000000000000050000000000000005 0 0", head + "\nsend 1 2 - -\narm 1 1 - 0 0\njunk 1 2 - " + key1 + " -\njunk 1 2 00 " + key1 + " 00"}
	for seed := range 4 {
		all = append(all, drawnAuthor(t, 1000+seed).writes(40).script())
	}
	return all
}

// P28.1: a script is neither changed nor kept.
func TestScriptHandedIn(t *testing.T) {
	for _, script := range memoryScripts(t) {
		want := wordsParse(script)
		lent, memory := borrowed(script)
		before := slices.Clone(whole(memory))
		got := parse(lent)
		transcript, line, e := lethe.Run(lent)
		if !slices.Equal(whole(memory), before) {
			t.Fatalf("P28.1: %q was changed", script)
		}
		again, _, _ := lethe.Run(script)
		spoil(memory, 'z')
		if !got.is(want) {
			t.Errorf("P28.1: Parse has kept the script: %v, want %v", got, want)
		}
		if transcript != again || line != 0 || e != 0 {
			t.Errorf("P28.1: Run has kept the script: %q, want %q", transcript, again)
		}
	}
}

// P28.1: the steps that are printed are neither changed nor kept, spare room too.
func TestStepsHandedIn(t *testing.T) {
	for _, script := range memoryScripts(t) {
		x := wordsParse(script)
		right := slices.Clone(x.steps)
		bad := append(slices.Clone(x.steps), api.Step{Kind: 13, A: 1, Text: []byte("text"), Data: []byte("data"), Loss: api.Loss{Keep: []uint64{7, 8}}})
		for _, list := range [][]api.Step{right, bad, append(slices.Clone(x.steps), api.Step{}), slices.Repeat(bad, mostSteps/len(bad)+1)} {
			steps, twin := lent(list), lent(list)
			got, e := lethe.Print(x.nodes, x.lim, steps)
			if !sameRoom(steps, twin) {
				t.Fatalf("P28.1: Print has changed what it was handed: %.500v", steps)
			}
			kept := strings.Clone(got)
			spoilSteps(steps)
			want, code := wordsPrint(x.nodes, x.lim, list)
			if got != kept || got != want || e != code {
				t.Errorf("P28.1: Print: %.300q, error %d, want %.300q, %d", got, e, want, code)
			}
		}
	}
}

// P28.1: nothing is written behind lists that lie in one piece of memory.
func TestStepsInOneMemory(t *testing.T) {
	memory := []byte("0123456789")
	numbers := []uint64{1, 2, 3, 4}
	steps := []api.Step{{Kind: 4, Text: memory[:4], Data: memory[4:6]}, {Kind: 4, Text: memory[2:8], Data: memory[:0]}, {Kind: 11, Loss: api.Loss{Keep: numbers[:2]}}, {Kind: 12, Loss: api.Loss{Keep: numbers[1:3]}}, {Kind: 13, Text: memory[:0], Loss: api.Loss{Keep: numbers[:0]}}}
	isPrinted(t, 2, oneLimits(), steps, textOf(head, "send 0 0 30313233 3435", "send 0 0 323334353637 -", "arm 0 0 00000000000000010000000000000002 0 0", "boot 0 0 00000000000000020000000000000003 0 0", "close 0"))
	if string(memory) != "0123456789" || !slices.Equal(numbers, []uint64{1, 2, 3, 4}) {
		t.Errorf("P28.1: the memory is %q, %v", memory, numbers)
	}
}

// P28.1: the steps that are answered are new memory, and so are their lists, spare room too: of one answer, and of two.
func TestStepsHandedOut(t *testing.T) {
	for _, script := range memoryScripts(t) {
		want := wordsParse(script)
		one, two := parse(script), parse(script)
		for i := range one.steps {
			spoilStep(one.steps[i])
			rest, all := one, want
			rest.steps, all.steps = one.steps[i+1:], want.steps[i+1:]
			if !rest.is(all) {
				t.Fatalf("P28.1: step %d shares a list's memory with a later one", i)
			}
		}
		spoilSteps(one.steps)
		_ = append(one.steps[:0], slices.Repeat([]api.Step{{Kind: 97}}, 9)...)
		if !two.is(want) {
			t.Errorf("P28.1: two answers share memory: %v, want %v", two, want)
		}
		if three := parse(script); !three.is(want) {
			t.Errorf("P28.1: what was written into an answer is seen: %v, want %v", three, want)
		}
	}
}

// P28.1: the lists of one step are apart, spare room too.
func TestListsApart(t *testing.T) {
	for _, bytes := range []string{"-", "00", "0011", "001122", "0011223344556677", strings.Repeat("5a", 33)} {
		got := parse(head + "\ninitiate 1 2 " + key1 + " " + key2 + " " + bytes + " " + bytes + "\njunk 1 2 " + bytes + " " + key1 + " " + bytes).steps
		for _, s := range got {
			spoil(s.Text, 0xee)
			if string(s.Data) != string(bytesOf(bytes)) {
				t.Errorf("P28.1: a step's text and data share memory: %x", s.Data)
			}
			text := slices.Clone(s.Text)
			spoil(s.Data, 0xdd)
			_ = append(s.Data, 1, 2, 3, 4, 5, 6, 7, 8)
			if !slices.Equal(s.Text, text) {
				t.Errorf("P28.1: a step's data and text share memory: %x", s.Text)
			}
		}
	}
}
