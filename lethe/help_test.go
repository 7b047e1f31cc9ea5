package lethe_test

import (
	"bytes"
	"encoding/hex"
	"fmt"
	"reflect"
	"regexp"
	"slices"
	"strconv"
	"strings"
	"testing"

	"lethe/api"
	"lethe/lethe"
)

// The numbers as the chapter has them, so that a changed constant is seen.
const (
	mostBytes = 1 << 20
	mostSteps = 4096

	noLimits  = api.Errno(2)
	noNode    = api.Errno(240)
	noStep    = api.Errno(244)
	badScript = api.Errno(280)
	badWord   = api.Errno(281)
	badArg    = api.Errno(282)
	tooMany   = api.Errno(283)
	extra     = api.Errno(284)
)

// head: that of the chapter's examples.
const head = "room 2 1 1 1 1 1 9"

// form: a word, its kind, and its arguments: n NODE, p PEER, a A, d DRAW, o OTHER, t TEXT, x DATA, k KEEP, r TORN, f OFFSET.
type form struct {
	word   string
	kind   int
	fields string
}

var forms = []form{
	{"create", 1, "nad"}, {"publish", 2, "npd"}, {"initiate", 3, "npdotx"}, {"send", 4, "nptx"}, {"deliver", 5, "adx"},
	{"drop", 6, "a"}, {"copy", 7, "a"}, {"ack", 8, "npa"}, {"replay", 9, "np"}, {"forget", 10, "np"},
	{"arm", 11, "nakrf"}, {"boot", 12, "nakrf"}, {"close", 13, "n"}, {"junk", 14, "nptdx"}, {"status", 15, "np"},
}

const allFields = "npadotxkrf"

// The four kinds of arguments, as the chapter tells them.
const (
	aNumber = `(0|-?[1-9][0-9]{0,17})`
	aKey    = `([0-9a-f]{64})`
	someHex = `(-|(?:[0-9a-f]{2})+)`
	aKeep   = `(-|(?:[0-9a-f]{16})+)`
)

// isNumber, isKey, isBytes: of which kind the argument of a letter is; else it is a keep.
func isNumber(c rune) bool { return strings.ContainsRune("nparf", c) }
func isKey(c rune) bool    { return c == 'd' || c == 'o' }
func isBytes(c rune) bool  { return c == 't' || c == 'x' }

func patternOf(fields string) string {
	out := ""
	for _, c := range fields {
		switch {
		case isNumber(c):
			out += " " + aNumber
		case isKey(c):
			out += " " + aKey
		case isBytes(c):
			out += " " + someHex
		default:
			out += " " + aKeep
		}
	}
	return out
}

var headPattern = regexp.MustCompile(`\Aroom` + strings.Repeat(" "+aNumber, 7) + `\z`)

var stepPatterns = func() map[string]*regexp.Regexp {
	made := map[string]*regexp.Regexp{}
	for _, f := range forms {
		made[f.word] = regexp.MustCompile(`\A` + f.word + patternOf(f.fields) + `\z`)
	}
	return made
}()

func formOf(word string) (form, bool) {
	at := slices.IndexFunc(forms, func(f form) bool { return f.word == word })
	if at < 0 {
		return form{}, false
	}
	return forms[at], true
}

func formOfKind(kind int) (form, bool) {
	at := slices.IndexFunc(forms, func(f form) bool { return f.kind == kind })
	if at < 0 {
		return form{}, false
	}
	return forms[at], true
}

func numberOf(part string) int {
	n, err := strconv.ParseInt(part, 10, 64)
	if err != nil {
		panic(err)
	}
	return int(n)
}

func bytesOf(part string) []byte {
	if part == "-" {
		return nil
	}
	b, err := hex.DecodeString(part)
	if err != nil {
		panic(err)
	}
	return b
}

func keepOf(part string) []uint64 {
	var list []uint64
	for rest := part; part != "-" && rest != ""; rest = rest[16:] {
		n, err := strconv.ParseUint(rest[:16], 16, 64)
		if err != nil {
			panic(err)
		}
		list = append(list, n)
	}
	return list
}

// set: a step's field of that letter, from an argument that is a right one.
func set(s *api.Step, c rune, part string) {
	switch c {
	case 'n':
		s.Node = numberOf(part)
	case 'p':
		s.Peer = numberOf(part)
	case 'a':
		s.A = numberOf(part)
	case 'd':
		s.Draw = api.Key(bytesOf(part))
	case 'o':
		s.Other = api.Key(bytesOf(part))
	case 't':
		s.Text = bytesOf(part)
	case 'x':
		s.Data = bytesOf(part)
	case 'k':
		s.Loss.Keep = keepOf(part)
	case 'r':
		s.Loss.Torn = numberOf(part)
	case 'f':
		s.Loss.Offset = numberOf(part)
	}
}

// told: a step's field of that letter as an argument.
func told(s api.Step, c rune) string {
	out := ""
	switch c {
	case 'n':
		return fmt.Sprint(s.Node)
	case 'p':
		return fmt.Sprint(s.Peer)
	case 'a':
		return fmt.Sprint(s.A)
	case 'd':
		return fmt.Sprintf("%x", s.Draw[:])
	case 'o':
		return fmt.Sprintf("%x", s.Other[:])
	case 't':
		out = fmt.Sprintf("%x", s.Text)
	case 'x':
		out = fmt.Sprintf("%x", s.Data)
	case 'k':
		for _, n := range s.Loss.Keep {
			out += fmt.Sprintf("%016x", n)
		}
	case 'r':
		return fmt.Sprint(s.Loss.Torn)
	case 'f':
		return fmt.Sprint(s.Loss.Offset)
	}
	if out == "" {
		return "-"
	}
	return out
}

// answer: what Parse answers.
type answer struct {
	nodes int
	lim   api.Limits
	steps []api.Step
	line  int
	e     api.Errno
}

func parse(script string) answer {
	n, lim, steps, line, e := lethe.Parse(script)
	return answer{n, lim, steps, line, e}
}

// plain: with nil for every list without elements, which are one and the same.
func plain(s api.Step) api.Step {
	if len(s.Text) == 0 {
		s.Text = nil
	}
	if len(s.Data) == 0 {
		s.Data = nil
	}
	if len(s.Loss.Keep) == 0 {
		s.Loss.Keep = nil
	}
	return s
}

func sameStep(a, b api.Step) bool { return reflect.DeepEqual(plain(a), plain(b)) }

func (a answer) is(b answer) bool {
	return a.nodes == b.nodes && a.lim == b.lim && a.line == b.line && a.e == b.e && slices.EqualFunc(a.steps, b.steps, sameStep)
}

func (a answer) String() string {
	return fmt.Sprintf("%d nodes, %v, steps %.300s, line %d, error %d", a.nodes, a.lim, fmt.Sprint(a.steps), a.line, a.e)
}

// wordsParse: Parse from the chapter's words.
func wordsParse(script string) answer {
	if len(script) > mostBytes {
		return answer{e: badScript}
	}
	lines := strings.Split(script, "\n")
	var out answer
	headed := false
	for i, line := range lines {
		if line == "" || strings.HasPrefix(line, "#") {
			continue
		}
		if !headed {
			headed = true
			if out.e = wordsHead(line, &out); out.e != 0 {
				return answer{line: i + 1, e: out.e}
			}
			continue
		}
		s, e := wordsStep(line)
		if len(out.steps) == mostSteps {
			e = tooMany
		}
		if e != 0 {
			return answer{line: i + 1, e: e}
		}
		out.steps = append(out.steps, s)
	}
	if !headed {
		return answer{line: len(lines), e: badScript}
	}
	return out
}

func wordsHead(line string, out *answer) api.Errno {
	if word, _, _ := strings.Cut(line, " "); word != "room" {
		return badScript
	}
	m := headPattern.FindStringSubmatch(line)
	if m == nil || numberOf(m[7]) < 0 || numberOf(m[7]) > 4294967295 {
		return badArg
	}
	out.nodes = numberOf(m[1])
	out.lim = api.Limits{Peers: numberOf(m[2]), Prekeys: numberOf(m[3]), Skip: numberOf(m[4]), Skips: numberOf(m[5]), Outbox: numberOf(m[6]), Counter: uint32(numberOf(m[7]))}
	return 0
}

func wordsStep(line string) (api.Step, api.Errno) {
	word, _, _ := strings.Cut(line, " ")
	f, there := formOf(word)
	if !there {
		return api.Step{}, badWord
	}
	m := stepPatterns[word].FindStringSubmatch(line)
	if m == nil {
		return api.Step{}, badArg
	}
	s := api.Step{Kind: f.kind}
	for i, c := range f.fields {
		set(&s, c, m[1+i])
	}
	return s, 0
}

func isLong(n int) bool { return len(strings.TrimPrefix(fmt.Sprint(n), "-")) > 18 }

func headNumbers(nodes int, lim api.Limits) []int {
	return []int{nodes, lim.Peers, lim.Prekeys, lim.Skip, lim.Skips, lim.Outbox, int(lim.Counter)}
}

// wordsPrint: Print from the chapter's words.
func wordsPrint(nodes int, lim api.Limits, steps []api.Step) (string, api.Errno) {
	if len(steps) > mostSteps {
		return "", tooMany
	}
	out := "room"
	for _, n := range headNumbers(nodes, lim) {
		if isLong(n) {
			return "", badArg
		}
		out += fmt.Sprint(" ", n)
	}
	var lines []string
	for _, s := range steps {
		if e := wordsFault(s); e != 0 {
			return "", e
		}
		lines = append(lines, lineOf(s)+"\n")
	}
	return out + "\n" + strings.Join(lines, ""), 0
}

// wordsFault: for which of the three errors a step is not written.
func wordsFault(s api.Step) api.Errno {
	f, there := formOfKind(s.Kind)
	if !there {
		return noStep
	}
	rest := s
	for _, c := range f.fields {
		clearField(&rest, c)
	}
	if !sameStep(rest, api.Step{Kind: s.Kind}) {
		return extra
	}
	for _, c := range f.fields {
		if isNumber(c) && isLong(numberOf(told(s, c))) {
			return badArg
		}
	}
	return 0
}

// clearField: a step's field of that letter is zero.
func clearField(s *api.Step, c rune) {
	zero := "-"
	switch {
	case isNumber(c):
		zero = "0"
	case isKey(c):
		zero = strings.Repeat("0", 64)
	}
	set(s, c, zero)
}

// lineOf: a step's line, without its end.
func lineOf(s api.Step) string {
	f, _ := formOfKind(s.Kind)
	line := f.word
	for _, c := range f.fields {
		line += " " + told(s, c)
	}
	return line
}

// textOf: a script of these lines, each ended.
func textOf(lines ...string) string { return strings.Join(lines, "\n") + "\n" }

// scriptOf: a script of these steps.
func scriptOf(nodes int, lim api.Limits, steps []api.Step) string {
	script, e := wordsPrint(nodes, lim, steps)
	if e != 0 {
		panic(fmt.Sprint("error ", e))
	}
	return script
}

// withKeys: D5 and the like stand for the keys of the document's examples.
func withKeys(script string) string {
	return regexp.MustCompile(`D[0-9]+`).ReplaceAllStringFunc(script, func(name string) string {
		k := numberOf(name[1:])
		return fmt.Sprintf("%02x", 8*k) + strings.Repeat("0", 60) + "40"
	})
}

// whole: a list with its spare room.
func whole[T any](list []T) []T { return list[:cap(list)] }

// roomy: the same list in memory of its own, with room behind it that is not zero.
func roomy[T any](list []T, more T) []T {
	return slices.Concat(list, slices.Repeat([]T{more}, 8))[:len(list)]
}

// lent: the same steps in memory of their own, with something in the spare room of every list.
func lent(steps []api.Step) []api.Step {
	list := roomy(steps, api.Step{Kind: 77, Node: 78})
	for i, s := range list {
		list[i].Text, list[i].Data, list[i].Loss.Keep = roomy(s.Text, 0x5a), roomy(s.Data, 0xa5), roomy(s.Loss.Keep, 0x77)
	}
	return list
}

// sameRoom: two lists of steps are alike, spare room too.
func sameRoom(a, b []api.Step) bool {
	return len(a) == len(b) && slices.EqualFunc(whole(a), whole(b), func(s, t api.Step) bool {
		return sameStep(s, t) && bytes.Equal(whole(s.Text), whole(t.Text)) && bytes.Equal(whole(s.Data), whole(t.Data)) && slices.Equal(whole(s.Loss.Keep), whole(t.Loss.Keep))
	})
}

// isFault: Parse and Run refuse a script with this line and this error, and answer nothing else.
func isFault(t *testing.T, script string, line int, e api.Errno) {
	t.Helper()
	if got, want := parse(script), (answer{line: line, e: e}); !got.is(want) {
		t.Errorf("P28.2: Parse(%.150q): %v, want line %d, error %d", script, got, line, e)
	}
	if out, l, code := lethe.Run(script); out != "" || l != line || code != e {
		t.Errorf("P28.5: Run(%.150q): %.40q, line %d, error %d, want line %d, error %d", script, out, l, code, line, e)
	}
}

// isTaken: Parse takes a script, and answers what the chapter's words ask for; its steps.
func isTaken(t *testing.T, script string) []api.Step {
	t.Helper()
	got, want := parse(script), wordsParse(script)
	if want.e != 0 {
		t.Fatalf("the words refuse %.150q: line %d, error %d", script, want.line, want.e)
	}
	if !got.is(want) {
		t.Errorf("P28.2: Parse(%.150q): %v, want %v", script, got, want)
	}
	return got.steps
}
