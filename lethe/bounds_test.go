package lethe_test

import (
	"fmt"
	"slices"
	"strings"
	"testing"

	"lethe/api"
	"lethe/lethe"
)

// filled: a script with skipped lines behind it, of just so many bytes.
func filled(script string, size int) string {
	rest := size - len(script) - 2
	return script + "\n#" + strings.Repeat("x", rest/2) + strings.Repeat("\n", rest-rest/2)
}

// P28.2: a script of api.MaxScript bytes is taken, one of one more is not, whatever it holds.
func TestMostBytes(t *testing.T) {
	if api.MaxScript != mostBytes || api.MaxSteps != mostSteps {
		t.Fatal("other limits")
	}
	right := filled(head+"\nclose 1", mostBytes)
	if len(right) != mostBytes {
		t.Fatalf("%d bytes", len(right))
	}
	if got := isTaken(t, right); len(got) != 1 {
		t.Errorf("P28.2: of %d bytes: %d steps", mostBytes, len(got))
	}
	isTaken(t, head+"\n"+strings.Repeat("\n", mostBytes-len(head)-1))
	for _, long := range []string{right + "\n", right + "x", right + "\nnonsense", right + right, strings.Repeat("\n", mostBytes+1), strings.Repeat("#", mostBytes+1), strings.Repeat("nonsense\n", mostBytes/9+1), strings.Repeat(" ", mostBytes+1), head + "\n" + strings.Repeat("close 1\n", mostBytes/8)} {
		isFault(t, long, 0, badScript)
	}
	isFault(t, strings.Repeat("\n", mostBytes), mostBytes+1, badScript)
	isFault(t, strings.Repeat("#", mostBytes), 1, badScript)
	isFault(t, strings.Repeat(" ", mostBytes), 1, badScript)
	isFault(t, "room"+strings.Repeat(" ", mostBytes-4), 1, badArg)
	isFault(t, head+"\nsend"+strings.Repeat(" ", mostBytes-len(head)-5), 2, badArg)
	isFault(t, head+"\n"+strings.Repeat("x", mostBytes-len(head)-1), 2, badWord)
	isFault(t, head+"\ndrop "+strings.Repeat("1", mostBytes-len(head)-6), 2, badArg)
}

// P28.2, P28.5: one line may be as long as the script: its bytes are taken, and the world refuses them.
func TestLongLine(t *testing.T) {
	start := head + "\nsend 1 2 "
	digits := mostBytes - len(start) - 2
	digits -= digits % 2
	script := start + strings.Repeat("a5", digits/2) + " -"
	steps := isTaken(t, script)
	if len(steps) != 1 || len(steps[0].Text) != digits/2 {
		t.Errorf("P28.2: a text of %d digits: %d steps", digits, len(steps))
	}
	if got, line, e := lethe.Run(script); e != 0 || line != 0 || got != "242 0 0 -\n= 1 0 0 0 0 0 0 -\n= 2 0 0 0 0 0 0 -\n" {
		t.Errorf("P28.5: %.100q, line %d, error %d", got, line, e)
	}
	isFault(t, script[:len(script)-3]+" -", 2, badArg)
	start = head + "\narm 1 3 "
	many := (mostBytes - len(start) - 4) / 16
	script = start + strings.Repeat("0123456789abcdef", many) + " 0 0"
	if steps = isTaken(t, script); len(steps) != 1 || len(steps[0].Loss.Keep) != many || slices.ContainsFunc(steps[0].Loss.Keep, func(n uint64) bool { return n != 0x0123456789abcdef }) {
		t.Errorf("P28.2: a keep of %d numbers: %d steps", many, len(steps))
	}
}

// P28.2: api.MaxSteps steps are taken; the line that would be one more is refused, whatever it holds, unless it is skipped.
func TestMostSteps(t *testing.T) {
	full := head + "\n" + strings.Repeat("close 1\n", mostSteps)
	if got := isTaken(t, full); len(got) != mostSteps {
		t.Errorf("P28.2: %d steps", len(got))
	}
	isTaken(t, full+"#\n\n\n# close 1\n#")
	isTaken(t, strings.ReplaceAll(full, "\n", "\n\n#\n"))
	for _, line := range []string{"close 1", "close", "close 1 ", "tick", " ", "\t", "\r", "\x00", "-", "room", head, " #", "close\t1", "send 1 2 - -", "drop 0\nnonsense", "=", strings.Repeat("x", 1000)} {
		isFault(t, full+line, mostSteps+2, tooMany)
		isFault(t, "#\n\n"+full+"#\n\n"+line+"\n", mostSteps+6, tooMany)
	}
	if out, line, e := lethe.Run(full); e != 0 || line != 0 || strings.Count(out, "242 0 0 -\n") != mostSteps {
		t.Errorf("P28.5: %d steps: line %d, error %d", mostSteps, line, e)
	}
	last := strings.TrimSuffix(full, "close 1\n")
	isFault(t, last+"tick\nclose 1\nclose 1", mostSteps+1, badWord)
	isFault(t, last+"close\nclose 1\nclose 1", mostSteps+1, badArg)
	isFault(t, head[:len(head)-1]+"-\n"+full[len(head)+1:]+"close 1", 1, badArg)
}

// P28.2: of several faults the first line's.
func TestFirstFault(t *testing.T) {
	faults := map[string]api.Errno{"tick 1": badWord, "close": badArg, head: badWord, "send 1 2 - - ": badArg, " ": badWord, "drop 00": badArg}
	for one, e := range faults {
		for two := range faults {
			isFault(t, textOf(head, one, two), 2, e)
			isFault(t, textOf(head, "close 1", "#", one, "", two, "close 1"), 4, e)
			isFault(t, textOf("", "#", head, "drop 0", "", "", one, "drop 0", two), 7, e)
		}
		isFault(t, textOf("room 2 1 1 1 1 1", one), 1, badArg)
		isFault(t, textOf("#", "rooms", one), 2, badScript)
		isFault(t, textOf("#", "", "close 1", head, one), 3, badScript)
	}
}

// P28.2: the number of a fault's line counts skipped lines too.
func TestFaultLine(t *testing.T) {
	for n := range 40 {
		skipped := strings.Repeat("\n#close 1\n", n)
		isFault(t, skipped+"nonsense", 2*n+1, badScript)
		isFault(t, skipped+"room", 2*n+1, badArg)
		isFault(t, skipped, 2*n+1, badScript)
		isFault(t, skipped+head+"\n"+skipped+"close 1\nclose 1 \n", 4*n+3, badArg)
		isFault(t, head+"\n"+strings.Repeat("close 1\n", n)+"nonsense\n"+skipped, n+2, badWord)
	}
}

// P28.5: what world.New refuses is told with the number of the head's line; a fault of any line comes first.
func TestRefusedByWorld(t *testing.T) {
	for _, x := range []struct {
		head string
		e    api.Errno
	}{
		{"room 1 1 1 1 1 1 9", noNode}, {"room 0 1 1 1 1 1 9", noNode}, {"room -2 1 1 1 1 1 9", noNode}, {"room 5 1 1 1 1 1 9", noNode}, {"room " + nines(18) + " 1 1 1 1 1 9", noNode}, {"room 4294967298 1 1 1 1 1 9", noNode}, {"room 1 0 0 0 0 0 0", noNode},
		{"room 2 0 1 1 1 1 9", noLimits}, {"room 2 17 1 1 1 1 9", noLimits}, {"room 2 -1 1 1 1 1 9", noLimits}, {"room 2 4294967297 1 1 1 1 9", noLimits},
		{"room 2 1 0 1 1 1 9", noLimits}, {"room 2 1 65 1 1 1 9", noLimits}, {"room 2 1 -1 1 1 1 9", noLimits},
		{"room 2 1 1 -1 1 1 9", noLimits}, {"room 2 1 1 65 1 1 9", noLimits}, {"room 2 1 1 1 -1 1 9", noLimits}, {"room 2 1 1 1 257 1 9", noLimits},
		{"room 2 1 1 1 1 0 9", noLimits}, {"room 2 1 1 1 1 65 9", noLimits}, {"room 2 1 1 1 1 -1 9", noLimits}, {"room 2 1 1 1 1 1 0", noLimits}, {"room 4 1 1 1 1 1 0", noLimits},
	} {
		for n := range 4 {
			for _, more := range []string{"", "\n", "\nclose 1\n#\ndrop 0", "\n\n#"} {
				script := strings.Repeat("#\n", n) + x.head + more
				isTaken(t, script)
				if got, line, e := lethe.Run(script); got != "" || line != n+1 || e != x.e {
					t.Errorf("P28.5: Run(%q): %q, line %d, error %d, want line %d, error %d", script, got, line, e, n+1, x.e)
				}
			}
		}
		isFault(t, x.head+"\nclose 1\nnonsense", 3, badWord)
		isFault(t, x.head+"\n"+strings.Repeat("drop 0\n", mostSteps)+"drop 0", mostSteps+2, tooMany)
		isFault(t, filled(x.head, mostBytes)+"#", 0, badScript)
	}
	for _, right := range []string{"room 2 1 1 0 0 1 1", "room 4 16 64 64 256 64 4294967295", "room 3 1 1 1 1 1 1"} {
		nodes := numberOf(right[5:6])
		want := ""
		for k := range nodes {
			want += fmt.Sprintf("= %d 0 0 0 0 0 0 -\n", k+1)
		}
		if got, line, e := lethe.Run(right); got != want || line != 0 || e != 0 {
			t.Errorf("P28.5: Run(%q): %q, line %d, error %d", right, got, line, e)
		}
	}
}
