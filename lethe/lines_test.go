package lethe_test

import (
	"fmt"
	"strings"
	"testing"

	"lethe/api"
)

const (
	key1 = "0123456789abcdef00112233445566778899aabbccddeeff000102030405060f"
	key2 = "ffeeddccbbaa99887766554433221100f0e0d0c0b0a090807060504030201000"
)

// common: an argument of each kind, each another one than its neighbours.
func common(c rune) string {
	return map[rune]string{
		'n': "3", 'p': "-4", 'a': "50", 'd': key1, 'o': key2, 't': "6869", 'x': "00ff",
		'k': "00000000000000058000000000000001", 'r': "-1", 'f': "512",
	}[c]
}

// commonArguments: of a form.
func commonArguments(f form) []string {
	var list []string
	for _, c := range f.fields {
		list = append(list, common(c))
	}
	return list
}

func joined(word string, arguments []string) string {
	return strings.Join(append([]string{word}, arguments...), " ")
}

// commonStep: what a word with its common arguments gives, field by field.
func commonStep(f form) api.Step {
	all := api.Step{Node: 3, Peer: -4, A: 50, Text: []byte("hi"), Data: []byte{0, 255}, Loss: api.Loss{Keep: []uint64{5, 1<<63 + 1}, Torn: -1, Offset: 512}}
	all.Draw, all.Other = api.Key(bytesOf(key1)), api.Key(bytesOf(key2))
	for _, c := range allFields {
		if !strings.ContainsRune(f.fields, c) {
			clearField(&all, c)
		}
	}
	all.Kind = f.kind
	return all
}

// P28.2: each word of the table, with its arguments.
func TestEachWord(t *testing.T) {
	for _, f := range forms {
		line := joined(f.word, commonArguments(f))
		for _, script := range []string{head + "\n" + line, head + "\n" + line + "\n", "#\n" + head + "\n\n" + line} {
			got := isTaken(t, script)
			if want := commonStep(f); len(got) != 1 || !sameStep(got[0], want) {
				t.Errorf("P28.2: %s: %v, want %v", line, got, want)
			}
		}
	}
	if len(forms) != 15 {
		t.Errorf("%d words", len(forms))
	}
}

// P28.2: each word with an argument missing, one too many, and with blanks and tabs where none may be.
func TestEachWordMade(t *testing.T) {
	for _, f := range forms {
		right := commonArguments(f)
		line := joined(f.word, right)
		bad := []string{f.word, f.word + " ", line + " ", line + " -", line + " 0", line + " " + key1, line + " #", line + "\t", line + "\r", line + "\x00", line + "#", line + " " + line}
		for i := range right {
			missing := append(append([]string{}, right[:i]...), right[i+1:]...)
			bad = append(bad, joined(f.word, missing))
			twice := append(append(append([]string{}, right[:i]...), right[i]), right[i:]...)
			bad = append(bad, joined(f.word, twice))
			empty := append([]string{}, right...)
			empty[i] = ""
			bad = append(bad, joined(f.word, empty))
		}
		for i, c := range line {
			if c == ' ' {
				bad = append(bad, line[:i]+"  "+line[i+1:])
				if i > len(f.word) { // the first blank ends the word
					bad = append(bad, line[:i]+"\t"+line[i+1:], line[:i]+line[i+1:])
				}
			}
		}
		for _, b := range bad {
			isFault(t, head+"\n"+b+"\nnonsense", 2, badArg)
		}
	}
}

// P28.2: the word is what stands ahead of the first blank, or all of the line.
func TestNoWord(t *testing.T) {
	for _, f := range forms {
		line := joined(f.word, commonArguments(f))
		rest := strings.TrimPrefix(line, f.word)
		for _, bad := range []string{
			" " + line, "  " + line, "\t" + line, "\r" + line, "\x00" + line, "-" + line, "\xff" + line, "\u00a0" + line, "\ufeff" + line,
			f.word + "\t" + rest[1:], f.word + "s" + rest, f.word + "\r", f.word + "\t" + rest, f.word[1:] + rest, f.word[:len(f.word)-1] + rest,
			strings.ToUpper(f.word) + rest, strings.ToUpper(f.word[:1]) + f.word[1:] + rest, fmt.Sprint(f.kind) + rest, "\u200b" + f.word + rest,
		} {
			isFault(t, head+"\n"+bad+"\nnonsense", 2, badWord)
		}
	}
	for _, bad := range []string{" ", "  ", "\t", "\r", "\x00", "-", "0", "tick 1", "room", head, head + " 1", "room ", "none", "none 1", " #", "\t# x", "=", "> 0 1 2 00", "word 1"} {
		isFault(t, head+"\n"+bad+"\nnonsense", 2, badWord)
	}
}

// nines: so many of them.
func nines(n int) string { return strings.Repeat("9", n) }

func rightNumbers() []string {
	return []string{"0", "1", "-1", "9", "-9", "10", "-10", "4294967295", "4294967296", "-4294967296", "2147483648", "1" + strings.Repeat("0", 17), "-1" + strings.Repeat("0", 17), nines(18), "-" + nines(18), "123456789012345678", "100200300"}
}

func wrongNumbers() []string {
	return []string{"", "-", "--", "--1", "+", "+1", "+0", "-0", "00", "01", "-01", "-00", "000000000000000001", "0" + nines(17), "0" + nines(18), "1" + strings.Repeat("0", 18), "-1" + strings.Repeat("0", 18), nines(19), "-" + nines(19),
		"9223372036854775807", "-9223372036854775808", "9223372036854775808", "18446744073709551616", "18446744073709551617", "-18446744073709551617", nines(40), strings.Repeat("0", 40), "1" + strings.Repeat("0", 400),
		"1.0", "1e3", "0x1", "0b1", "0o7", "1_0", "1,0", "a", "-a", "1a", "a1", "1-", "1-1", "- 1", "\t1", "1\t", "1\r", "\u0661", "\uff11", "1\x00", "\xb2", "\u22121", "Inf", "NaN", "nil"}
}

func rightKeys() []string {
	return []string{key1, key2, strings.Repeat("0", 64), strings.Repeat("f", 64), strings.Repeat("a9", 32)}
}

func wrongKeys() []string {
	list := []string{"", "-", "0", "00", key1[:63], key1[1:], key1 + "0", key1[:62], key1 + "00", key1 + key1, strings.ToUpper(key1), "-" + key1, "-" + key1[1:], "+" + key1[1:], "0x" + key1, "0x" + key1[2:], key1[:60] + " " + key1[60:], key1[:63] + "\u0661", strings.Repeat("\u0661", 32), strings.Repeat("\u0661", 64)}
	for _, at := range []int{0, 1, 31, 32, 62, 63} {
		for _, c := range []string{"A", "F", "G", "g", "/", ":", "@", "`", "-", "_", "\x00", "\xff", "\t", "\r"} {
			list = append(list, key1[:at]+c+key1[at+1:])
		}
	}
	return list
}

func rightBytes() []string {
	return []string{"-", "00", "ff", "0a", "a0", "6869", "000000", "0123456789abcdef", key1, strings.Repeat("5a", 512), strings.Repeat("c3", 513), strings.Repeat("00", 70000)}
}

func wrongBytes() []string {
	return []string{"", "0", "f", "000", "68696", "FF", "fF", "Ff", "68AA", "A0", "0A", "--", "-00", "00-", "0-", "-0", "+0", "0x", "0x00", "g0", "0g", "/0", ":0", "0@", "`0", "00\t", "\t00", "00\r", "zz", "\x00\x00", "\xff\xff", "\u0661", "\u0661\u0661", strings.Repeat("5a", 512) + "5"}
}

func rightKeeps() []string {
	return []string{"-", strings.Repeat("0", 16), strings.Repeat("f", 16), "0000000000000005", "5000000000000000", "0123456789abcdef", "fedcba9876543210", "8000000000000000", "7fffffffffffffff", "00000000000000010000000000000002", "0123456789abcdef00000000000000000000000000000003", strings.Repeat("0011223344556677", 40)}
}

func wrongKeeps() []string {
	n := "0123456789abcdef"
	return []string{"", "0", "5", "00", n[1:], n[:15], n + "0", n[:14], n + "00", n[:8], n + n[:8], n + n[1:], n + n[:15], n + n + "0", strings.ToUpper(n), n[:15] + "F", "A" + n[1:], n + n[:15] + "E", "--", "-" + n, "-" + n[1:], n + "-", n[:15] + "-", "+" + n[1:], n[:15] + "g", "g" + n[1:], n[:7] + ":" + n[8:], n[:15] + "\r", n + "\t", n + "," + n, strings.Repeat("\u0661", 8)}
}

func rightOf(c rune) []string {
	switch {
	case isNumber(c):
		return rightNumbers()
	case isKey(c):
		return rightKeys()
	case isBytes(c):
		return rightBytes()
	}
	return rightKeeps()
}

func wrongOf(c rune) []string {
	switch {
	case isNumber(c):
		return wrongNumbers()
	case isKey(c):
		return wrongKeys()
	case isBytes(c):
		return wrongBytes()
	}
	return wrongKeeps()
}

// P28.2: each argument of each word: what is asked for there, and what is not.
func TestEachArgument(t *testing.T) {
	for _, f := range forms {
		for i, c := range f.fields {
			parts := commonArguments(f)
			for _, part := range rightOf(c) {
				parts[i] = part
				want := commonStep(f)
				set(&want, c, part)
				got := parse(head + "\n" + joined(f.word, parts))
				if got.e != 0 || len(got.steps) != 1 || !sameStep(got.steps[0], want) {
					t.Errorf("P28.2: %.150s: %v, want %.150s", joined(f.word, parts), got, fmt.Sprint(want))
				}
			}
			for _, part := range wrongOf(c) {
				parts[i] = part
				isFault(t, head+"\n"+joined(f.word, parts), 2, badArg)
			}
		}
	}
}

// P28.2: an argument of one kind is none of another one's.
func TestOtherArguments(t *testing.T) {
	for _, f := range forms {
		for i, c := range f.fields {
			for _, other := range allFields {
				parts := commonArguments(f)
				parts[i] = common(other)
				got, want := parse(head+"\n"+joined(f.word, parts)), wordsParse(head+"\n"+joined(f.word, parts))
				if !got.is(want) {
					t.Errorf("P28.2: %s with the argument of %c for %c: %v, want %v", f.word, other, c, got, want)
				}
			}
		}
	}
}
