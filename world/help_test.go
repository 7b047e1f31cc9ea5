package world_test

import (
	"bytes"
	"crypto/sha256"
	"encoding/hex"
	"fmt"
	"math"
	"slices"
	"strconv"
	"strings"
	"testing"

	"lethe/api"
	"lethe/header"
	"lethe/world"
)

// narrow: the limits of the documents' examples.
func narrow() api.Limits {
	return api.Limits{Peers: 2, Prekeys: 2, Skip: 2, Skips: 4, Outbox: 2, Counter: 9}
}

// wide: limits that refuse nothing that may be.
func wide() api.Limits {
	return api.Limits{Peers: 16, Prekeys: 64, Skip: 64, Skips: 256, Outbox: 64, Counter: 1<<32 - 1}
}

// form: a kind of steps, and the fields that it names, in the order of a script's line (chapter 28): n Node, p Peer, a A, d Draw, o Other, t Text, x Data, l Loss.
type form struct {
	kind   int
	fields string
}

var forms = map[string]form{
	"create": {1, "nad"}, "publish": {2, "npd"}, "initiate": {3, "npdotx"}, "send": {4, "nptx"}, "deliver": {5, "adx"},
	"drop": {6, "a"}, "copy": {7, "a"}, "ack": {8, "npa"}, "replay": {9, "np"}, "forget": {10, "np"},
	"arm": {11, "nal"}, "boot": {12, "nal"}, "close": {13, "n"}, "junk": {14, "nptdx"}, "status": {15, "np"},
}

// draw: number n of draws that are all unlike, as are their pairs.
func draw(n int) api.Key { return sha256.Sum256(four(uint32(n))) }

// bench: a world and its words, which are handed the same steps.
type bench struct {
	t     *testing.T
	w     *world.World
	r     *room
	drawn int
	out   map[string]string // of each node: what it has handed out, by the header's key and number
	taken map[string]int
	ahead []api.Record // of node 1, ahead of the step that is looked at
}

func newBench(t *testing.T, nodes int, lim api.Limits) *bench {
	t.Helper()
	w, e := world.New(nodes, lim)
	if w == nil || e != 0 {
		t.Fatalf("P24.1: New(%d, %v): error %d, world %v", nodes, lim, e, w)
	}
	b := &bench{t: t, w: w, r: newRoom(t, nodes, lim), out: map[string]string{}, taken: map[string]int{}}
	b.isSame("a new one")
	return b
}

// draw: one that was never taken.
func (b *bench) draw() api.Key {
	b.drawn++
	return draw(b.drawn)
}

// key: D5 is the fifth of the documents' examples, * one that was never taken.
func (b *bench) key(word string) api.Key {
	if word == "*" {
		return b.draw()
	}
	k, err := strconv.Atoi(word[1:])
	if word[0] != 'D' || err != nil {
		b.t.Fatalf("%q is no key", word)
	}
	return api.Key{0: byte(8 * k), 31: 64}
}

// bytesOf: hexadecimal digits, or letters behind a quote, or - for none.
func bytesOf(word string) []byte {
	if word == "-" {
		return nil
	}
	if word[0] == '\'' {
		return []byte(word[1:])
	}
	b, err := hex.DecodeString(word)
	if err != nil {
		panic(err)
	}
	return b
}

func numberOf(word string) int {
	n, err := strconv.Atoi(word)
	if err != nil {
		panic(err)
	}
	return n
}

func keepOf(word string) []uint64 {
	var keep []uint64
	for ; word != "-" && len(word) >= 16; word = word[16:] {
		n, err := strconv.ParseUint(word[:16], 16, 64)
		if err != nil {
			panic(err)
		}
		keep = append(keep, n)
	}
	return keep
}

// step: of a script's line.
func (b *bench) step(line string) api.Step {
	b.t.Helper()
	words := strings.Split(line, " ")
	f, there := forms[words[0]]
	if !there {
		b.t.Fatalf("no word: %q", line)
	}
	s := api.Step{Kind: f.kind}
	for i, c := range f.fields {
		word := words[1+i]
		switch c {
		case 'n':
			s.Node = numberOf(word)
		case 'p':
			s.Peer = numberOf(word)
		case 'a':
			s.A = numberOf(word)
		case 'd':
			s.Draw = b.key(word)
		case 'o':
			s.Other = b.key(word)
		case 't':
			s.Text = bytesOf(word)
		case 'x':
			s.Data = bytesOf(word)
		case 'l':
			s.Loss = api.Loss{Keep: keepOf(word), Torn: numberOf(words[2+i]), Offset: numberOf(words[3+i])}
		}
	}
	return s
}

// does: a line is played; its answer.
func (b *bench) does(line string) api.Answer {
	b.t.Helper()
	return b.plays(line, b.step(line))
}

// is: a line is played, and answers this; the bytes "?" stand for any, and "+" for any but none.
func (b *bench) is(line string, code api.Errno, a, bb int, text string) string {
	b.t.Helper()
	got := b.does(line)
	right := got.Bytes == text || text == "?" || text == "+" && got.Bytes != ""
	if got.Code != code || got.A != a || got.B != bb || !right {
		b.t.Errorf("P24.1: %s: %s, want %d %d %d %q", line, told(got), code, a, bb, text)
	}
	return got.Bytes
}

// goes: lines that are all taken.
func (b *bench) goes(lines ...string) {
	b.t.Helper()
	for _, line := range lines {
		if got := b.does(line); got.Code != 0 {
			b.t.Fatalf("%s: error %d", line, got.Code)
		}
	}
}

func told(a api.Answer) string { return fmt.Sprintf("%d %d %d %.60q", a.Code, a.A, a.B, a.Bytes) }

// plays: a step is played by both; its answer, what it was handed, and all that can be asked for are held against the words.
func (b *bench) plays(what string, s api.Step) api.Answer {
	b.t.Helper()
	ahead := b.seen()
	got := b.quick(what, s)
	b.notes(what, s, got)
	if got.Code != 0 && !b.mayChange(s, got.Code) && b.seen() != ahead {
		b.t.Errorf("P3: %s: refused with %d, and something has changed", what, got.Code)
	}
	b.isSame(what)
	return got
}

// quick: a step is played by both, and their answers alone are held against each other.
func (b *bench) quick(what string, s api.Step) api.Answer {
	b.t.Helper()
	lent, fresh := lentStep(s), lentStep(s)
	got := b.w.Play(lent)
	if !sameStep(lent, fresh) {
		b.t.Errorf("rule 2: %s: what was handed in, or what lies behind it, is another one", what)
	}
	spoilStep(lent)
	if want := b.r.play(s); got != want {
		b.t.Errorf("P24.1, P2: %s: %s, want %s", what, told(got), told(want))
	}
	return got
}

// mayChange: the steps that change something although they answer an error.
func (b *bench) mayChange(s api.Step, code api.Errno) bool {
	switch {
	case code == 80: // what a disk that gives up leaves
		return true
	case s.Kind == 5: // the packet is gone from the network
		return code != 230
	}
	return code == 231 && s.Kind != 7 // lost on the way out
}

// notes: P5 of all that is on its way, P6 and P8 of what was taken.
func (b *bench) notes(what string, s api.Step, got api.Answer) {
	b.t.Helper()
	if s.Kind == 3 || s.Kind == 4 || s.Kind == 9 {
		for _, f := range b.w.Flights() {
			p, e := header.Unpack(f.Bytes)
			at := fmt.Sprintf("%d %x %d", f.From, p.Header.Key, p.Header.N)
			if was, there := b.out[at]; e != 0 || there && was != string(f.Bytes) {
				b.t.Errorf("P5: %s: two packets of one key and number are unlike", what)
			}
			b.out[at] = string(f.Bytes)
		}
	}
	if s.Kind != 5 || got.Code != 0 {
		return
	}
	x := b.r.air[s.A].bytes
	if is, want := (letter{got.B, got.A, got.Bytes, string(s.Data)}), b.r.made[x]; is != want {
		b.t.Errorf("P8: %s: %v was taken, %v was sent", what, is, want)
	}
	if b.taken[x]++; b.taken[x] > 1 {
		b.t.Errorf("P6, P8: %s: a packet is taken %d times", what, b.taken[x])
	}
}

// farNumbers: numbers below 0 and far above, and such whose low bits could be taken for a right one.
func farNumbers() []int {
	return []int{math.MinInt, math.MinInt + 1, math.MinInt + 2, -1 << 32, -1<<32 + 1, math.MinInt32, -256, -255, -2, -1, 1 << 16, 1<<16 + 1, math.MaxInt32, 1 << 31, 1 << 32, 1<<32 + 1, 1<<32 + 2, 1 << 62, math.MaxInt - 1, math.MaxInt}
}

// badNodes: numbers that are no node's, of a world of so many.
func badNodes(nodes int) []int { return append([]int{0, nodes + 1}, farNumbers()...) }

// whole: a list with its spare room.
func whole[T any](list []T) []T { return list[:cap(list)] }

// roomy: the same list, with room behind it that is not zero.
func roomy[T any](list []T, more T) []T {
	return slices.Concat(list, slices.Repeat([]T{more}, 8))[:len(list)]
}

// spoil: every byte is another one, spare room too.
func spoil(b []byte) {
	for i := range whole(b) {
		whole(b)[i] ^= 0xff
	}
}

// lentStep: the same step in memory of its own, with something in its lists' spare room.
func lentStep(s api.Step) api.Step {
	s.Text, s.Data, s.Loss.Keep = roomy(s.Text, 0x5a), roomy(s.Data, 0xa5), roomy(s.Loss.Keep, 0x77)
	return s
}

func sameStep(a, b api.Step) bool {
	return bytes.Equal(whole(a.Text), whole(b.Text)) && bytes.Equal(whole(a.Data), whole(b.Data)) && slices.Equal(whole(a.Loss.Keep), whole(b.Loss.Keep)) &&
		len(a.Text) == len(b.Text) && len(a.Data) == len(b.Data) && len(a.Loss.Keep) == len(b.Loss.Keep)
}

func spoilStep(s api.Step) {
	spoil(s.Text)
	spoil(s.Data)
	for i := range whole(s.Loss.Keep) {
		whole(s.Loss.Keep)[i] ^= 1<<64 - 1
	}
}

// lineOf: a line with numbers in it.
func lineOf(form string, numbers ...any) string { return fmt.Sprintf(form, numbers...) }
