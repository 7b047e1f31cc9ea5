package lethe_test

import (
	"fmt"
	"math/rand"
	"slices"
	"strings"
	"testing"

	"lethe/api"
	"lethe/lethe"
	"lethe/world"
)

// isAsWords: of any bytes at all Parse answers what the chapter's words ask for, Print gives the lines again, and Run tells a world that is played by hand, or the fault.
func isAsWords(t *testing.T, script string) api.Errno {
	t.Helper()
	got, want := parse(script), wordsParse(script)
	if !got.is(want) {
		t.Fatalf("P28.2: Parse(%.2000q): %v, want %v", script, got, want)
	}
	transcript, line, e := lethe.Run(script)
	if want.e != 0 {
		if transcript != "" || line != want.line || e != want.e {
			t.Fatalf("P28.5: Run(%.2000q): %.300q, line %d, error %d, want line %d, error %d", script, transcript, line, e, want.line, want.e)
		}
		return want.e
	}
	bare, code := lethe.Print(got.nodes, got.lim, got.steps)
	if code != 0 || bare != withoutSkipped(script) {
		t.Fatalf("P28.4: Print of Parse(%.2000q): %.2000q, error %d", script, bare, code)
	}
	if _, code := world.New(want.nodes, want.lim); code != 0 {
		if first := headAt(script); transcript != "" || line != first || e != code {
			t.Fatalf("P28.5: Run(%.2000q): %.300q, line %d, error %d, want line %d, error %d", script, transcript, line, e, first, code)
		}
		return e
	}
	a := newAuthor(t, 0, want.nodes, want.lim)
	for _, s := range want.steps {
		a.plays(s)
	}
	isRunAs(t, "drawn", script, a.answersTold()+a.endTold())
	return e
}

// withoutSkipped: the lines that are left, each ended.
func withoutSkipped(script string) string {
	out := ""
	for line := range strings.SplitSeq(script, "\n") {
		if line != "" && line[0] != '#' {
			out += line + "\n"
		}
	}
	return out
}

// headAt: the number of the first line that is not skipped.
func headAt(script string) int {
	return 1 + slices.IndexFunc(strings.Split(script, "\n"), func(line string) bool { return line != "" && line[0] != '#' })
}

// P28.1: drawn bytes: every call ends, none panics.
func TestDrawnBytes(t *testing.T) {
	r := rand.New(rand.NewSource(287))
	for n := range 20000 {
		b := make([]byte, r.Intn(120))
		letters := []string{"", "0123456789abcdef -\n#", "room 219\n", "\n#", " \n-0", "\x00\xff\n \r\t"}[r.Intn(6)]
		for i := range b {
			b[i] = byte(r.Intn(256))
			if letters != "" {
				b[i] = letters[r.Intn(len(letters))]
			}
		}
		script := string(b)
		if n%2 == 0 {
			script = head + "\n" + script
		}
		isAsWords(t, script)
	}
}

// drawnWords: a script of lines that are put together of the words' own parts, right and wrong ones.
func drawnWords(r *rand.Rand) string {
	parts := slices.Concat([]string{"room", "1", "2", "0", "-", "00", "6869", "#", "", " ", key1, key2, "0000000000000001"}, []string{rightNumbers()[r.Intn(len(rightNumbers()))], wrongNumbers()[r.Intn(len(wrongNumbers()))]})
	out := drawnSkips(r) + head + "\n"
	for range r.Intn(6) {
		f := forms[r.Intn(len(forms))]
		list := []string{f.word}
		for _, c := range f.fields {
			part := rightOf(c)[r.Intn(len(rightOf(c))-1)] // but the longest
			if r.Intn(12) == 0 {
				part = parts[r.Intn(len(parts))]
			}
			list = append(list, part)
		}
		if r.Intn(20) == 0 {
			list[0] = []string{"room", "tick", "", f.word + "s", f.word[1:], strings.ToUpper(f.word)}[r.Intn(6)]
		}
		if r.Intn(20) == 0 {
			list = append(list, parts[r.Intn(len(parts))])
		}
		if r.Intn(20) == 0 {
			list = slices.Delete(list, r.Intn(len(list)), len(list))
		}
		out += strings.Join(list, " ") + "\n" + drawnSkips(r)
	}
	return strings.TrimSuffix(out, "\n")
}

// P28.1, P28.2, P28.5: lines of right and wrong parts.
func TestDrawnLines(t *testing.T) {
	r := rand.New(rand.NewSource(288))
	seen := map[api.Errno]int{}
	for range 4000 {
		seen[isAsWords(t, drawnWords(r))]++
	}
	for _, e := range []api.Errno{0, badArg, badWord} {
		if seen[e] < 100 {
			t.Errorf("error %d was drawn %d times", e, seen[e])
		}
	}
}

// changed: the script with one change: a byte, a piece or a line is another one, is gone, or stands twice.
func changed(r *rand.Rand, script string) string {
	at := r.Intn(len(script))
	end := min(len(script), at+1+r.Intn(20))
	lines := strings.SplitAfter(script, "\n")
	line := r.Intn(len(lines))
	switch r.Intn(10) {
	case 0:
		return script[:at] + string([]byte{byte(r.Intn(256))}) + script[at+1:]
	case 1:
		return script[:at] + string("0123456789abcdef -\n#"[r.Intn(20)]) + script[at+1:]
	case 2:
		return script[:at] + string("0123456789abcdef -\n#"[r.Intn(20)]) + script[at:]
	case 3:
		return script[:at] + script[at+1:]
	case 4:
		return script[:at] + script[end:]
	case 5:
		return script[:end] + script[at:]
	case 6:
		return script[:at]
	case 7:
		return strings.Join(slices.Delete(lines, line, line+1), "")
	case 8:
		return strings.Join(slices.Insert(lines, line, lines[r.Intn(len(lines))]), "")
	}
	other := r.Intn(len(lines))
	lines[line], lines[other] = lines[other], lines[line]
	return strings.Join(lines, "")
}

// P28.1, P28.2, P28.5: scripts that were right, and were changed in a few places.
func TestChangedScripts(t *testing.T) {
	seeds := make([]map[api.Errno]int, 12)
	t.Run("all", func(t *testing.T) {
		for seed := range seeds {
			seeds[seed] = map[api.Errno]int{}
			t.Run(fmt.Sprint(seed), func(t *testing.T) {
				t.Parallel()
				a := drawnAuthor(t, 1100+seed).writes(25)
				for range 60 {
					script := a.script()
					for range 1 + a.r.Intn(3) {
						script = changed(a.r, script+"\n")
					}
					seeds[seed][isAsWords(t, script)]++
				}
			})
		}
	})
	seen := map[api.Errno]int{}
	for _, s := range seeds {
		for e, n := range s {
			seen[e] += n
		}
	}
	for _, e := range []api.Errno{0, badScript, badArg, badWord} {
		if seen[e] < 5 {
			t.Errorf("error %d was drawn %d times", e, seen[e])
		}
	}
}

// P28.1, P28.2, P28.4, P28.5: whatever a fuzzer finds.
func FuzzScript(f *testing.F) {
	for _, x := range wholes {
		f.Add(withKeys(opening + x.script))
	}
	r := rand.New(rand.NewSource(289))
	for range 20 {
		f.Add(drawnWords(r))
	}
	f.Fuzz(func(t *testing.T, script string) { isAsWords(t, script) })
}
