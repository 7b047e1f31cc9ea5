package pack_test

import (
	"bytes"
	"fmt"
	"math/rand"
	"testing"

	"lethe/api"
	"lethe/pack"
)

// whole: a list with its spare room.
func whole[T any](list []T) []T { return list[:cap(list)] }

// roomy: the same bytes, with room behind them that is not zero.
func roomy(b []byte) []byte { return joined(b, bytes.Repeat([]byte{0x5a}, 70))[:len(b)] }

func roomyRecord(r api.Record) api.Record {
	return api.Record{Table: r.Table, Key: roomy(r.Key), Value: roomy(r.Value)}
}

// roomyList: the same records, with room behind the list in which others stand, and room behind each key and value.
func roomyList(list []api.Record) []api.Record {
	var out []api.Record
	for _, r := range list {
		out = append(out, roomyRecord(r))
	}
	for range 4 {
		out = append(out, roomyRecord(rec(11, "spare", "room")))
	}
	return out[: len(list) : len(list)+4]
}

// given: all that is handed in to the calls.
type given struct {
	list    []api.Record
	r       api.Record
	count   int
	content []byte
}

// pieces: every list of bytes in what is handed in, those in the list's spare room too.
func (g given) pieces() [][]byte {
	return append(piecesOf(whole(g.list)), g.r.Key, g.r.Value, g.content)
}

func piecesOf(list []api.Record) [][]byte {
	var pieces [][]byte
	for _, r := range list {
		pieces = append(pieces, r.Key, r.Value)
	}
	return pieces
}

func tablesOf(list []api.Record) []int {
	var tables []int
	for _, r := range list {
		tables = append(tables, r.Table)
	}
	return tables
}

// shot: pieces as they are now, with their spare room.
func shot(pieces [][]byte) [][]byte {
	var out [][]byte
	for _, p := range pieces {
		out = append(out, joined(whole(p)))
	}
	return out
}

func isAsItWas(t *testing.T, what string, pieces, before [][]byte) {
	t.Helper()
	for i, p := range pieces {
		if !bytes.Equal(whole(p), before[i]) {
			t.Fatalf("P11.1: %s: piece %d, or what lies behind it, has changed", what, i)
		}
	}
}

func scribble(pieces [][]byte) {
	for _, p := range pieces {
		for k := range whole(p) {
			whole(p)[k] ^= 0xff
		}
	}
}

// answered: all that the calls hand out.
type answered struct {
	lists  [][]api.Record
	bytes  [][]byte
	counts [][]int
	told   string
}

func (a answered) pieces() [][]byte {
	pieces := a.bytes
	for _, list := range a.lists {
		pieces = append(pieces, piecesOf(list)...)
	}
	return pieces
}

// allCalls: each call once, of what is handed in; what they answer beside lists is told as a text.
func allCalls(g given) answered {
	check, compare, size := pack.Check(g.r), pack.Compare(g.r, g.r), pack.Size(g.r)
	encoded, e1 := pack.Encode(g.list)
	decoded, e2 := pack.Decode(g.count, g.content)
	counts, e3 := pack.Pack(g.list)
	with, e4 := pack.Put(g.list, g.r)
	without, e5 := pack.Delete(g.list, g.r.Table, g.r.Key)
	at, there := pack.Find(g.list, g.r.Table, g.r.Key)
	for _, r := range g.list {
		compare = 3*compare + pack.Compare(g.r, r)
	}
	return answered{
		lists:  [][]api.Record{decoded, with, without},
		bytes:  [][]byte{encoded},
		counts: [][]int{counts},
		told:   fmt.Sprint(check, compare, size, e1, e2, e3, e4, e5, at, there),
	}
}

// givens: right and wrong ones of all kinds, each in memory of its own, with room behind everything.
func givens() []given {
	r := rand.New(rand.NewSource(8))
	lists := [][]api.Record{nil, some(), recs(rec(1, "a", "")), recs(sized("a", 900), sized("b", 900)), recs(rec(16, "a", "x")), smallest(198, 3)}
	lists = append(lists, unsorted()...)
	for range 40 {
		lists = append(lists, drawnSorted(r, 9))
	}
	var out []given
	for n, list := range lists {
		puts := recs(rec(0, "\x00", "first"), rec(15, "\xff\xff\xff", ""), rec(1, "bb", "midst"), noRecords()[n%len(noRecords())])
		if len(list) > 0 {
			puts = append(puts, list[0], list[len(list)/2], list[len(list)-1])
		}
		fitting := drawnFitting(r, 6)
		for k, x := range puts {
			content := laid(fitting...)
			if k == 1 {
				content = content[:1000]
			}
			if k == 2 {
				content[r.Intn(30)] ^= 1
			}
			out = append(out, given{roomyList(list), roomyRecord(x), len(fitting), roomy(content)})
		}
	}
	return out
}

// P11.1: what is handed in is as it was, spare room too; no answer hangs on it any more, nor it on an answer.
func TestHandedInStays(t *testing.T) {
	for n, g := range givens() {
		what := fmt.Sprintf("given %d", n)
		before, tables := shot(g.pieces()), tablesOf(whole(g.list))
		out := allCalls(g)
		isAsItWas(t, what+": handed in", g.pieces(), before)
		if !sameCounts(tablesOf(whole(g.list)), tables) {
			t.Fatalf("P11.1: %s: the list, or what lies behind it, has changed", what)
		}
		seen, counts := shot(out.pieces()), fmt.Sprint(out.counts)
		scribble(g.pieces())
		for i := range whole(g.list) {
			whole(g.list)[i].Table = -7
		}
		isAsItWas(t, what+": answers behind a change of what was handed in", out.pieces(), seen)
		for _, list := range out.lists {
			for _, r := range list {
				if r.Table == -7 {
					t.Fatalf("P11.1: %s: an answer is the very list that was handed in", what)
				}
			}
		}
		if fmt.Sprint(out.counts) != counts {
			t.Fatalf("P11.1: %s: the counts have changed", what)
		}
		after := shot(g.pieces())
		scribble(out.pieces())
		for _, list := range out.lists {
			_ = append(list, rec(1, "x", "y"), rec(2, "x", "y"))
			clear(whole(list))
		}
		isAsItWas(t, what+": handed in, behind a change of the answers", g.pieces(), after)
		for _, table := range tablesOf(whole(g.list)) {
			if table != -7 {
				t.Fatalf("P11.1: %s: the list that was handed in sees what is written into an answer", what)
			}
		}
	}
}

// P11.1: no two lists, keys, values or contents that are answered share memory, spare room too, neither of one call nor of two.
func TestAnswersAreNew(t *testing.T) {
	for n, g := range givens() {
		if len(g.list) > 50 {
			continue
		}
		first, second := allCalls(g), allCalls(g)
		pieces := append(first.pieces(), second.pieces()...)
		before := shot(pieces)
		for i := range pieces {
			scribble(pieces[i : i+1])
			isAsItWas(t, fmt.Sprintf("given %d: piece %d is written into: the ones ahead of it", n, i), pieces[:i], before[:i])
			isAsItWas(t, fmt.Sprintf("given %d: piece %d is written into: the ones behind it", n, i), pieces[i+1:], before[i+1:])
			scribble(pieces[i : i+1])
		}
		lists := append(first.lists, second.lists...)
		for i, list := range lists {
			for k := range whole(list) {
				whole(list)[k].Table = 1000 + i
			}
		}
		for i, list := range lists {
			for _, r := range whole(list) {
				if r.Table != 1000+i {
					t.Fatalf("P11.1: given %d: answer %d shares its list with a later one", n, i)
				}
			}
		}
		for k := range whole(first.counts[0]) {
			whole(first.counts[0])[k] = -1
		}
		for _, count := range second.counts[0] {
			if count < 1 {
				t.Fatalf("P11.1: given %d: two answers of Pack share memory", n)
			}
		}
	}
}

// P11.1: records whose keys and values are pieces of one array, over one another, come out each in memory of its own.
func TestRecordsOfOneArray(t *testing.T) {
	array := []byte("abcdefghijklmnop")
	list := recs(
		api.Record{Table: 1, Key: array[:1], Value: array[:4]},
		api.Record{Table: 1, Key: array[:2], Value: array[:4]},
		api.Record{Table: 2, Key: array[1:3], Value: array[2:9]})
	x := api.Record{Table: 1, Key: list[1].Key[:1:2], Value: list[2].Value}
	out, e := pack.Put(list, x)
	want := recs(rec(1, "a", "cdefghi"), rec(1, "ab", "abcd"), rec(2, "bc", "cdefghi"))
	if e != api.OK || !sameList(out, want) {
		t.Fatalf("P11.1: Put: error %d, %s", e, told(out))
	}
	if string(array) != "abcdefghijklmnop" {
		t.Fatalf("P11.1: the array has changed: %q", array)
	}
	pieces := piecesOf(out)
	before := shot(pieces)
	for i := range pieces {
		scribble(pieces[i : i+1])
		isAsItWas(t, "pieces of one array", pieces[i+1:], before[i+1:])
	}
	if string(array) != "abcdefghijklmnop" {
		t.Fatalf("P11.1: the array sees what is written into the answer: %q", array)
	}
}

// P11.1, rule 5: the same again, whatever was called and written in between.
func TestSameAgain(t *testing.T) {
	all := givens()
	var first []string
	tell := func(a answered) string { return fmt.Sprint(a.lists, a.bytes, a.counts, a.told) }
	for _, g := range all {
		out := allCalls(g)
		first = append(first, tell(out))
		scribble(out.pieces())
	}
	for n := len(all) - 1; n >= 0; n-- {
		if tell(allCalls(all[n])) != first[n] {
			t.Fatalf("P11.1: given %d has another answer the next time", n)
		}
	}
}

// P11.1, rule 1: beside an error there is nothing.
func TestNothingBesideAnError(t *testing.T) {
	for n, g := range givens() {
		encoded, e := pack.Encode(g.list)
		if e != api.OK && len(encoded) != 0 {
			t.Errorf("P11.5: given %d: bytes beside error %d", n, e)
		}
		if list, e := pack.Decode(g.count+1, g.content); e != api.OK && len(list) != 0 {
			t.Errorf("P11.6: given %d: records beside error %d", n, e)
		}
		if counts, e := pack.Pack(g.list); e != api.OK && len(counts) != 0 {
			t.Errorf("P11.7: given %d: counts beside error %d", n, e)
		}
		if list, e := pack.Put(g.list, g.r); e != api.OK && len(list) != 0 {
			t.Errorf("P11.8: given %d: records beside error %d", n, e)
		}
		if list, e := pack.Delete(g.list, g.r.Table, g.r.Key); e != api.OK && len(list) != 0 {
			t.Errorf("P11.9: given %d: records beside error %d", n, e)
		}
	}
}

// P11.1: drawn bytes and numbers of all kinds: every call ends, and answers what the chapter's words say.
func TestNothingPanics(t *testing.T) {
	r := rand.New(rand.NewSource(9))
	for n := range 3000 {
		content := make([]byte, []int{0, 1, 5, 1007, 1008, 1008, 1008, 1008, 1009}[r.Intn(9)])
		for i := range content {
			content[i] = byte(r.Intn(1 << (1 + r.Intn(8))))
		}
		count := r.Intn(300) - 3
		if r.Intn(9) == 0 {
			count = farNumbers()[r.Intn(len(farNumbers()))]
		}
		want, e := wordsDecode(count, content)
		isDecoded(t, fmt.Sprintf("draw %d", n), count, content, want, e)
		x := api.Record{Table: farNumbers()[r.Intn(len(farNumbers()))], Key: content}
		isFound(t, fmt.Sprintf("draw %d", n), some(), x.Table, string(x.Key), len(some())*min(1, max(0, x.Table)), false)
		isPut(t, fmt.Sprintf("draw %d", n), some(), x, nil, api.ErrRecord)
		isDeleted(t, fmt.Sprintf("draw %d", n), some(), x.Table, string(x.Key), nil, api.ErrMissing)
	}
}
