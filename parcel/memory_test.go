package parcel_test

import (
	"bytes"
	"fmt"
	"slices"
	"testing"

	"lethe/api"
	"lethe/parcel"
)

// framed: bytes in the midst of an array, with spare room behind them.
func framed(text string) (array, part []byte) {
	array = append(append([]byte("ahead"), text...), "behind, spare room"...)
	return array, array[5 : 5+len(text)]
}

// P26.1: a text that is handed to Split stays as it was, spare room too; and what is written into it then is not seen.
func TestSplitTextStays(t *testing.T) {
	for _, size := range []int{0, 1, 5, room, room + 1, 3*room + 4, longest, longest + 1} {
		text := sample(size, 40)
		array, part := framed(text)
		before := slices.Clone(array)
		parts, e := parcel.Split(7, part)
		want, code := wordsSplit(7, text)
		if !bytes.Equal(array, before) {
			t.Errorf("P26.1: %d bytes: the text, or what lies beside it, has changed", size)
		}
		spoil(array)
		if got := texts(parts); e != code || !slices.Equal(got, want) {
			t.Errorf("P26.1: %d bytes, error %d: the parts have become others", size, e)
		}
		written := slices.Clone(array)
		for _, p := range parts {
			spoil(p)
			_ = append(p, "more"...)
		}
		if !bytes.Equal(array, written) {
			t.Errorf("P26.1: %d bytes: what is written into the parts stands in the text", size)
		}
	}
}

// P26.1: the parts are new memory, spare room too: what is written into one, or appended to it, neither another one sees, nor another answer.
func TestPartsOfTheirOwn(t *testing.T) {
	for _, size := range []int{0, 1, room, room + 1, 2*room + 9, longest} {
		text := sample(size, 41)
		want, _ := wordsSplit(7, text)
		kept, _ := parcel.Split(7, []byte(text))
		for i := range kept {
			parts, _ := parcel.Split(7, []byte(text))
			spoil(parts[i])
			_ = append(parts[i], "appended to it"...)
			for k, p := range parts {
				if k != i && string(p) != want[k] {
					t.Errorf("P26.1: %d bytes: what is written into part %d stands in part %d", size, i, k)
				}
			}
			for k := range wholeRoom(parts) {
				wholeRoom(parts)[k] = []byte("another one")
			}
		}
		if !slices.Equal(texts(kept), want) {
			t.Errorf("P26.1: %d bytes: what is written into other parts stands in these", size)
		}
	}
}

// P26.1: bytes that are handed to Add stay as they were, spare room too, whatever it answers; and what is written into them then is not seen, nor are they written to later.
func TestAddedBytesStay(t *testing.T) {
	text := sample(room+3, 42)
	parts := split(t, 7, text)
	b := newBench(t, 1)
	var arrays, all [][]byte
	hand := func(what, peer, part string, want api.Errno) {
		t.Helper()
		array, in := framed(part)
		before := slices.Clone(array)
		id, whole, e := b.x.Add(peer, in)
		wantID, wantWhole, code := b.w.add(peer, part)
		if id != wantID || whole != wantWhole || e != code || e != want {
			t.Errorf("P26.1: %s: %d, %v, error %d, want %d, %v, %d", what, id, whole, e, wantID, wantWhole, want)
		}
		if !bytes.Equal(array, before) {
			t.Errorf("P26.1: %s: the bytes, or what lies beside them, have changed", what)
		}
		spoil(array)
		arrays, all = append(arrays, array), append(all, slices.Clone(array))
		b.isSame(what)
	}
	hand("no name", "", parts[0], noName)
	hand("no part", "bob", parts[0][:100], noPart)
	hand("another sum", "bob", written(7, 1, 0, "12345678", "x"), badSum)
	hand("taken", "bob", parts[1], 0)
	hand("again", "bob", parts[1], twice)
	hand("another parcel's", "bob", flipped(parts[0], 9), noPart)
	hand("full", "eve", parts[0], full)
	hand("another content", "bob", flipped(parts[0], 30), badSum)
	hand("the last one", "bob", parts[0], 0)
	got, e := b.x.Take("bob", 7)
	if string(got) != text || e != 0 {
		t.Errorf("P26.1: Take: error %d, or what was written into the parts stands in the text", e)
	}
	spoil(got)
	for i := range arrays {
		if !bytes.Equal(arrays[i], all[i]) {
			t.Errorf("P26.1: the bytes handed in by call %d were written to later", i)
		}
	}
}

// P26.1: one array handed in part by part, written over in between.
func TestOneArrayManyParts(t *testing.T) {
	text := sample(longest, 43)
	x, _ := parcel.New(1)
	array := make([]byte, 512, 600)
	for i, part := range split(t, 7, text) {
		n := copy(array, part)
		if _, whole, e := x.Add("bob", array[:n]); e != 0 || whole != (i == 63) {
			t.Fatalf("P26.1: part %d: whole %v, error %d", i, whole, e)
		}
		spoil(array)
	}
	if got, e := x.Take("bob", 7); string(got) != text || e != 0 {
		t.Errorf("P26.1: Take: error %d, or what was written into the array stands in the text", e)
	}
}

// P26.1: a text that Take answers is new memory, spare room too: no other parcel's text, taken ahead or behind, sees what is written there.
func TestTakenTextIsNew(t *testing.T) {
	for _, size := range []int{0, 1, 7, room, room + 1, 4 * room} {
		text := sample(size, 44)
		x, _ := parcel.New(8)
		take := func(peer string) []byte {
			got, e := x.Take(peer, 7)
			if string(got) != text || e != 0 {
				t.Errorf("P26.1: %d bytes: Take(%q): error %d, or another text", size, peer, e)
			}
			return got
		}
		parts, _ := parcel.Split(7, []byte(text))
		for _, peer := range []string{"a", "b", "c"} {
			for _, p := range parts {
				x.Add(peer, p)
			}
		}
		ahead, spoilt := take("a"), take("b")
		spoil(spoilt)
		_ = append(spoilt, "appended to it"...)
		if string(ahead) != text {
			t.Errorf("P26.1: %d bytes: a text sees what is written into another", size)
		}
		take("c")
		for _, p := range parts {
			x.Add("b", p)
		}
		take("b")
		if want, _ := wordsSplit(7, text); !slices.Equal(texts(parts), want) {
			t.Errorf("P26.1: %d bytes: what is written into a text stands in the parts", size)
		}
	}
}

// P26.1: what Missing answers is new memory, spare room too.
func TestMissingIsNew(t *testing.T) {
	for _, many := range []int{2, 3, 4, 5, 9, 17, 33, 64} {
		b := newBench(t, 2)
		parts := split(t, 7, sample(many*room, 45))
		for i, part := range parts[:many-1] {
			b.addAll("ahead", "bob", part)
			kept, _ := b.x.Missing("bob", 7)
			list, _ := b.x.Missing("bob", 7)
			for k := range wholeRoom(list) {
				wholeRoom(list)[k] = -1
			}
			_ = append(list, -2)
			b.isSame("the writing")
			for k, n := range kept {
				if n != i+1+k {
					t.Fatalf("P26.1: %d parts: a list sees what is written into another: %v", many, kept)
				}
			}
		}
		b.addAll("the last one", "bob", parts[many-1])
		list, _ := b.x.Missing("bob", 7)
		_ = append(list, 1, 2, 3)
		b.isSame("the writing")
		b.isCode("whole", b.take("whole", "bob", 7), 0)
	}
}

// P26.1: what was answered stays as it was, whatever becomes of the tray.
func TestAnswersStay(t *testing.T) {
	x, _ := parcel.New(4)
	text := sample(3*room, 46)
	parts, _ := parcel.Split(7, []byte(text))
	x.Add("bob", parts[1])
	missing, _ := x.Missing("bob", 7)
	x.Add("bob", parts[0])
	x.Add("bob", parts[2])
	taken, _ := x.Take("bob", 7)
	for k := range 50 {
		more, _ := parcel.Split(7, []byte(sample(3*room, int64(k))))
		for _, p := range more {
			x.Add("bob", p)
		}
		if k%2 == 0 {
			x.Take("bob", 7)
		}
		x.Drop("bob")
	}
	if fmt.Sprint(missing) != "[0 2]" || string(taken) != text {
		t.Errorf("P26.1: Missing's answer has become %v, or Take's text another one", missing)
	}
}
