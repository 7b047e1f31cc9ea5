package lethe_test

import (
	"strings"
	"testing"

	"lethe/api"
)

// P28.2: the head's seven numbers, each in its place.
func TestHead(t *testing.T) {
	got := parse("room 3 11 12 -13 14 15 16")
	if want := (answer{nodes: 3, lim: api.Limits{Peers: 11, Prekeys: 12, Skip: -13, Skips: 14, Outbox: 15, Counter: 16}}); !got.is(want) {
		t.Errorf("P28.2: %v, want %v", got, want)
	}
	for i := range 7 {
		for _, n := range rightNumbers() {
			parts := strings.Split("3 11 12 13 14 15 16", " ")
			parts[i] = n
			script := "room " + strings.Join(parts, " ")
			if i < 6 || numberOf(n) >= 0 && numberOf(n) <= 4294967295 {
				isTaken(t, script)
				isTaken(t, "\n"+script+"\nclose 1\n")
			} else {
				isFault(t, script, 1, badArg)
			}
		}
		for _, n := range wrongNumbers() {
			parts := strings.Split("3 11 12 13 14 15 16", " ")
			parts[i] = n
			isFault(t, "room "+strings.Join(parts, " ")+"\nnonsense", 1, badArg)
			isFault(t, "#\n\nroom "+strings.Join(parts, " "), 3, badArg)
		}
		parts := strings.Split("3 11 12 13 14 15 16", " ")
		isFault(t, "room "+strings.Join(append(parts[:i:i], parts[i+1:]...), " "), 1, badArg)
	}
}

// P28.2: the head's last number is from 0 to 4294967295.
func TestHeadCounter(t *testing.T) {
	for n, counter := range map[string]uint32{"0": 0, "1": 1, "4294967294": 1<<32 - 2, "4294967295": 1<<32 - 1, "2147483648": 1 << 31} {
		got := parse("room 2 1 1 1 1 1 " + n)
		if want := (answer{nodes: 2, lim: api.Limits{Peers: 1, Prekeys: 1, Skip: 1, Skips: 1, Outbox: 1, Counter: counter}}); !got.is(want) {
			t.Errorf("P28.2: the counter %s: %v", n, got)
		}
	}
	for _, n := range []string{"-1", "-4294967295", "4294967296", "4294967297", "8589934592", "-4294967296", nines(18), "-" + nines(18)} {
		isFault(t, "room 2 1 1 1 1 1 "+n, 1, badArg)
	}
}

// P28.2: the head has nothing else, ahead of it or behind.
func TestHeadMade(t *testing.T) {
	for _, bad := range []string{
		"room", "room ", "room 2", "room 2 1 1 1 1 1", "room 2 1 1 1 1 1 ", head + " ", head + " 9", head + " -", head + " #", head + "\t", head + "\r", head + "\x00", head + "#",
		"room  2 1 1 1 1 1 9", "room 2  1 1 1 1 1 9", "room 2 1 1 1 1 1  9", "room 2\t1 1 1 1 1 9", "room 2 1 1 1 1 1\t9", "room 2 1 1 1 1 1 9 room", "room  ", "room 2 1 1 1 1 1 - 9", head + " " + head,
	} {
		isFault(t, bad, 1, badArg)
		isFault(t, "#\n"+bad+"\n"+head+"\nclose 1", 2, badArg)
	}
	for _, bad := range []string{
		" ", " " + head, "\t" + head, "\r" + head, "\r", "\x00", "Room 2 1 1 1 1 1 9", "ROOM 2 1 1 1 1 1 9", "rooms 2 1 1 1 1 1 9", "roo", "room\t2 1 1 1 1 1 9", "room\r", "room#", "\ufeff" + head, "-", "0", "2 1 1 1 1 1 9", " #", "close", "close 1", "tick", "send 1 2 - -", " room", "\xff",
	} {
		isFault(t, bad, 1, badScript)
		isFault(t, "#\n\n"+bad+"\n"+head+"\nclose 1", 3, badScript)
	}
}

// P28.2: scripts in which no line is left.
func TestNoHead(t *testing.T) {
	for script, line := range map[string]int{
		"": 1, "\n": 2, "\n\n": 3, "#": 1, "#\n": 2, "#\n#": 2, "# room 2 1 1 1 1 1 9": 1, "#" + head + "\n\n#x\n": 4, "##": 1, "# \n\n\n#\xff\x00": 4, strings.Repeat("\n", 5000): 5001, strings.Repeat("#\n", 5000): 5001,
	} {
		isFault(t, script, line, badScript)
	}
}

// P28.2: a second head is a step, with no word of the table.
func TestSecondHead(t *testing.T) {
	for _, second := range []string{head, "room", "room ", "room 3 1 1 1 1 1 9"} {
		isFault(t, head+"\n"+second, 2, badWord)
		isFault(t, head+"\n#\nclose 1\n"+second+"\nclose 1", 4, badWord)
	}
}

// P28.2: lines are parted by 0a alone, and only such are skipped as are empty or begin with #.
func TestLineEnds(t *testing.T) {
	two := []api.Step{{Kind: 13, Node: 1}, {Kind: 6, A: 7}}
	for _, script := range []string{
		head + "\nclose 1\ndrop 7", head + "\nclose 1\ndrop 7\n", head + "\nclose 1\ndrop 7\n\n\n", "\n\n" + head + "\n\nclose 1\n\n\ndrop 7", "#\n# x\n#" + head + "\n" + head + "\n# 1\nclose 1\n##\n#\ndrop 7\n#", head + "\nclose 1\n#\r\n#close 2\r\n# \xff\x00\ndrop 7\n#",
	} {
		got := isTaken(t, script)
		if len(got) != 2 || !sameStep(got[0], two[0]) || !sameStep(got[1], two[1]) {
			t.Errorf("P28.2: %q: %v", script, got)
		}
	}
	isFault(t, head+"\r\nclose 1\r\n", 1, badArg)
	isFault(t, head+"\nclose 1\r\ndrop 7\r\n", 2, badArg)
	isFault(t, head+"\nclose 1\n\r\ndrop 7", 3, badWord)
	isFault(t, "\r\n"+head, 1, badScript)
	for _, end := range []string{"\r", "\v", "\f", "\u0085", "\u2028", "\u2029", "\x00", ";", "\\n"} {
		isFault(t, head+end+"close 1", 1, badArg)
		isFault(t, head+"\nclose 1"+end+"drop 7", 2, badArg)
		isFault(t, head+"\nclose 1\n"+end, 3, badWord)
		isFault(t, end+"\n"+head, 1, badScript)
	}
	for _, line := range []string{" ", "  ", " #", "\t", "//", "; x", "--"} {
		isFault(t, head+"\nclose 1\n"+line+"\ndrop 7", 3, badWord)
		isFault(t, line+"\n"+head, 1, badScript)
	}
	isFault(t, head+"\nclose 1 # the first", 2, badArg)
	isFault(t, head+"\nclose 1 ", 2, badArg)
	isFault(t, head+"\nclose #1", 2, badArg)
}
