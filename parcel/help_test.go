package parcel_test

import (
	"crypto/sha256"
	"fmt"
	"math"
	"math/rand"
	"slices"
	"strings"
	"testing"

	"lethe/api"
	"lethe/parcel"
)

// The numbers as the chapter has them, so that a changed constant is seen.
const (
	maxParcel = 64
	maxName   = 16
	room      = 497
	longest   = 31808

	limits   = api.Errno(2)
	tooLong  = api.Errno(5)
	badSum   = api.Errno(101)
	full     = api.Errno(120)
	twice    = api.Errno(151)
	unknown  = api.Errno(201)
	noName   = api.Errno(212)
	noPart   = api.Errno(260)
	notWhole = api.Errno(261)
)

// wordsSum: the first 8 bytes of the digest of the whole text, by Go's own library.
func wordsSum(text string) string {
	digest := sha256.Sum256([]byte(text))
	return string(digest[:8])
}

// written: a part's bytes, of whatever fields.
func written(id uint32, many, index int, sum, content string) string {
	head := []byte{5, byte(id >> 24), byte(id >> 16), byte(id >> 8), byte(id), byte(many), byte(index)}
	return string(head) + sum + content
}

// wordsSplit: a text's parts from the chapter's words: cut as long as more than Room bytes are left.
func wordsSplit(id uint32, text string) ([]string, api.Errno) {
	if len(text) > longest {
		return nil, tooLong
	}
	var contents, parts []string
	rest := text
	for len(rest) > room {
		contents = append(contents, rest[:room])
		rest = rest[room:]
	}
	contents = append(contents, rest)
	for i, c := range contents {
		parts = append(parts, written(id, len(contents), i, wordsSum(text), c))
	}
	return parts, 0
}

// fields: of a part.
type fields struct {
	id           uint32
	many, index  int
	sum, content string
}

// wordsPart: is it a part, by the chapter's words?
func wordsPart(b string) (fields, bool) {
	if len(b) < 15 || b[0] != 5 {
		return fields{}, false
	}
	id := uint32(b[1])<<24 + uint32(b[2])<<16 + uint32(b[3])<<8 + uint32(b[4])
	f := fields{id, int(b[5]), int(b[6]), b[7:15], b[15:]}
	if f.many < 1 || f.many > maxParcel || f.index >= f.many {
		return fields{}, false
	}
	least, most := room, room
	if f.index == f.many-1 {
		least = 1
		if f.many == 1 {
			least = 0
		}
	}
	return f, len(f.content) >= least && len(f.content) <= most
}

// wordsParcel: in a tray of words.
type wordsParcel struct {
	peer string
	id   uint32
	many int
	sum  string
	come map[int]string // contents by index
}

func (c *wordsParcel) missing() []int {
	var list []int
	for i := range c.many {
		if _, came := c.come[i]; !came {
			list = append(list, i)
		}
	}
	return list
}

func (c *wordsParcel) text() string {
	all := ""
	for i := range c.many {
		all += c.come[i]
	}
	return all
}

// words: a tray made from the chapter's words: a list in which everything is looked for.
type words struct {
	most int
	list []*wordsParcel
}

func (w *words) find(peer string, id uint32) *wordsParcel {
	for _, c := range w.list {
		if c.peer == peer && c.id == id {
			return c
		}
	}
	return nil
}

func wordsName(peer string) bool { return peer != "" && len(peer) <= maxName }

func (w *words) add(peer, part string) (uint32, bool, api.Errno) {
	if !wordsName(peer) {
		return 0, false, noName
	}
	f, right := wordsPart(part)
	if !right {
		return 0, false, noPart
	}
	old := w.find(peer, f.id)
	now := &wordsParcel{peer, f.id, f.many, f.sum, map[int]string{f.index: f.content}}
	if old != nil {
		if old.many != f.many || old.sum != f.sum {
			return 0, false, noPart
		}
		for i, content := range old.come {
			if i == f.index {
				return 0, false, twice
			}
			now.come[i] = content
		}
	} else if len(w.list) == w.most {
		return 0, false, full
	}
	whole := len(now.missing()) == 0
	if whole && wordsSum(now.text()) != now.sum {
		return 0, false, badSum
	}
	w.leave(func(c *wordsParcel) bool { return c == old })
	w.list = append(w.list, now)
	return f.id, whole, 0
}

// leave: those that are meant are there no longer; how many they were.
func (w *words) leave(meant func(*wordsParcel) bool) int {
	count := len(w.list)
	w.list = slices.DeleteFunc(slices.Clone(w.list), meant)
	return count - len(w.list)
}

// named: the parcel of this peer and id, or why there is none.
func (w *words) named(peer string, id uint32) (*wordsParcel, api.Errno) {
	if !wordsName(peer) {
		return nil, noName
	}
	c := w.find(peer, id)
	if c == nil {
		return nil, unknown
	}
	return c, 0
}

func (w *words) take(peer string, id uint32) (string, api.Errno) {
	c, e := w.named(peer, id)
	if e != 0 {
		return "", e
	}
	if len(c.missing()) > 0 {
		return "", notWhole
	}
	w.leave(func(d *wordsParcel) bool { return d == c })
	return c.text(), 0
}

// bench: a tray and its words, which are handed the same calls.
type bench struct {
	t *testing.T
	x *parcel.Tray
	w *words
}

func newBench(t *testing.T, most int) *bench {
	t.Helper()
	x, e := parcel.New(most)
	if x == nil || e != 0 {
		t.Fatalf("P26.1: New(%d): error %d, tray %v", most, e, x)
	}
	b := &bench{t, x, &words{most: most}}
	b.isSame("a new one")
	return b
}

func (b *bench) add(what, peer, part string) api.Errno {
	b.t.Helper()
	what = fmt.Sprintf("%s: Add(%.20q, %.20x.. of %d bytes)", what, peer, part, len(part))
	id, whole, e := b.x.Add(peer, []byte(part))
	wantID, wantWhole, code := b.w.add(peer, part)
	if id != wantID || whole != wantWhole || e != code {
		b.t.Errorf("P26.1: %s: %d, %v, error %d, want %d, %v, %d", what, id, whole, e, wantID, wantWhole, code)
	}
	b.isSame(what)
	return code
}

func (b *bench) take(what, peer string, id uint32) api.Errno {
	b.t.Helper()
	what = fmt.Sprintf("%s: Take(%.20q, %d)", what, peer, id)
	sum := ""
	if c := b.w.find(peer, id); c != nil {
		sum = c.sum
	}
	text, e := b.x.Take(peer, id)
	want, code := b.w.take(peer, id)
	if string(text) != want || e != code {
		b.t.Errorf("P26.1, P26.2: %s: %d bytes %.20x.., error %d, want %d bytes %.20x.., %d", what, len(text), text, e, len(want), want, code)
	}
	if e == 0 && wordsSum(string(text)) != sum {
		b.t.Errorf("P26.3: %s: the text's sum is %x, its parts tell %x", what, wordsSum(string(text)), sum)
	}
	b.isSame(what)
	return code
}

func (b *bench) drop(what, peer string) int {
	b.t.Helper()
	what = fmt.Sprintf("%s: Drop(%.20q)", what, peer)
	got := b.x.Drop(peer)
	want := b.w.leave(func(c *wordsParcel) bool { return c.peer == peer })
	if got != want {
		b.t.Errorf("P26.1: %s: %d, want %d", what, got, want)
	}
	b.isSame(what)
	return want
}

func (b *bench) missing(what, peer string, id uint32) api.Errno {
	b.t.Helper()
	list, e := b.x.Missing(peer, id)
	c, code := b.w.named(peer, id)
	var want []int
	if c != nil {
		want = c.missing()
	}
	if !slices.Equal(list, want) || e != code {
		b.t.Errorf("P26.1: %s: Missing(%.20q, %d): %v, error %d, want %v, %d", what, peer, id, list, e, want, code)
	}
	return code
}

// isSame: all that a tray can be asked for without changing it.
func (b *bench) isSame(what string) {
	b.t.Helper()
	if got := b.x.Len(); got != len(b.w.list) {
		b.t.Errorf("P26.1: behind %s: Len %d, want %d", what, got, len(b.w.list))
	}
	for _, c := range b.w.list {
		b.missing("behind "+what, c.peer, c.id)
	}
	for _, id := range []uint32{0, 7, math.MaxUint32} {
		b.missing("behind "+what, "nobody", id)
	}
}

// isCode: the words have answered as the chapter says of this very case.
func (b *bench) isCode(what string, got, want api.Errno) {
	b.t.Helper()
	if got != want {
		b.t.Errorf("P26.1: %s: error %d, want %d", what, got, want)
	}
}

// isCount: so does a call that answers a number.
func (b *bench) isCount(what string, got, want int) {
	b.t.Helper()
	if got != want {
		b.t.Errorf("P26.1: %s: %d, want %d", what, got, want)
	}
}

// addAll: parts that are taken, one behind the other.
func (b *bench) addAll(what, peer string, parts ...string) {
	b.t.Helper()
	for i, part := range parts {
		b.isCode(fmt.Sprintf("%s: part %d", what, i), b.add(what, peer, part), 0)
	}
}

// texts: parts as texts, which nobody can write to.
func texts(parts [][]byte) []string {
	var list []string
	for _, p := range parts {
		list = append(list, string(p))
	}
	return list
}

// split: what Split makes of a text that it takes.
func split(t *testing.T, id uint32, text string) []string {
	t.Helper()
	parts, e := parcel.Split(id, []byte(text))
	if e != 0 {
		t.Fatalf("P26.1: Split(%d, %d bytes): error %d", id, len(text), e)
	}
	return texts(parts)
}

// sample: a text of so many bytes that hangs on the seed alone, with no piece twice.
func sample(size int, seed int64) string {
	text := make([]byte, size)
	rand.New(rand.NewSource(seed)).Read(text)
	return string(text)
}

// turned: b with another byte at a place.
func turned(b string, at int, to byte) string { return b[:at] + string([]byte{to}) + b[at+1:] }

// flipped: b with one bit of a byte turned.
func flipped(b string, at int) string { return turned(b, at, b[at]^1) }

// someNames: of every length that is taken, of any bytes.
func someNames() []string {
	names := []string{"alice", "bob", "\x00", "\xff", "é", "😀", "a", "A", "a\x00", "\x00a", " ", "a ", "\n", "\xc3", "\xc3\x28", strings.Repeat("é", 8), strings.Repeat("😀", 4)}
	for n := 1; n <= maxName; n++ {
		names = append(names, strings.Repeat("n", n), strings.Repeat("\xfe", n))
	}
	return names
}

// wrongNames: of no bytes, of 17 and of more, of such numbers too whose low bits are those of a right one.
func wrongNames() []string {
	names := []string{"", strings.Repeat("é", 9), strings.Repeat("😀", 5)}
	for _, n := range []int{17, 18, 32, 33, 64, 255, 256, 257, 272, 1 << 16, 1<<16 + 1, 1<<16 + 16} {
		names = append(names, strings.Repeat("n", n), strings.Repeat("\x00", n))
	}
	return names
}

// orders: all orders of the numbers below n.
func orders(n int) [][]int {
	if n == 0 {
		return [][]int{nil}
	}
	var all [][]int
	for _, o := range orders(n - 1) {
		for at := 0; at <= len(o); at++ {
			all = append(all, slices.Insert(slices.Clone(o), at, n-1))
		}
	}
	return all
}

// wholeRoom: a list with its spare room.
func wholeRoom[T any](list []T) []T { return list[:cap(list)] }

// spoil: every byte is another one, spare room too.
func spoil(b []byte) {
	for i := range wholeRoom(b) {
		wholeRoom(b)[i] ^= 0xff
	}
}
