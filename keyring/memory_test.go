package keyring_test

import (
	"bytes"
	"slices"
	"testing"

	"lethe/api"
	"lethe/keyring"
)

func spoil(b []byte) {
	for i := range whole(b) {
		whole(b)[i] ^= 0xff
	}
	_ = append(b, "behind"...)
}

// roomyDraws: the same draws, each with room behind it, and a list with room in which other draws lie.
func roomyDraws(list [][]byte) [][]byte {
	all := make([][]byte, 0, len(list)+2)
	for _, b := range list {
		all = append(all, roomy(b))
	}
	whole(all)[len(list)], whole(all)[len(list)+1] = steps(1, 32), steps(2, 32)
	return all
}

func areUntouched(t *testing.T, what string, given, want [][]byte) {
	t.Helper()
	for i, b := range given {
		if !bytes.Equal(whole(b), whole(roomy(want[i]))) {
			t.Errorf("P19.1: %s: draw %d, or what lies behind it, is another one", what, i)
		}
	}
	rest := whole(given)[len(given):]
	if !bytes.Equal(rest[0], steps(1, 32)) || !bytes.Equal(rest[1], steps(2, 32)) {
		t.Errorf("P19.1: %s: what lies behind the draws is another one", what)
	}
}

// P19.1: draws stay as they are, spare room too, and are not kept, whatever the answer.
func TestDrawsStay(t *testing.T) {
	b := created(t, someLimits())
	for _, c := range []struct {
		what string
		list [][]byte
		code api.Errno
	}{
		{"none", nil, 0}, {"no draw", [][]byte{draw(1), steps(1, 31)}, 71}, {"too many", draws(1, 4), 191}, {"taken", draws(1, 3), 0}, {"none again", nil, 0}, {"full", draws(1, 1), 191},
	} {
		given := roomyDraws(c.list)
		b.isPublishedCode(c.what, given, c.code)
		areUntouched(t, c.what, given, c.list)
		for i := range given {
			spoil(given[i])
		}
		for i := range whole(given) {
			whole(given)[i] = nil
		}
		b.isSeen(c.what + ", written into")
	}
	b.commit()
	b.isSeen("committed")
	for _, x := range []func([][]byte) api.Errno{
		func(list [][]byte) api.Errno { _, e := keyring.Publish(nil, list...); return e },
		func(list [][]byte) api.Errno { b.x.Abort(); _, e := keyring.Publish(b.x, list...); return e },
	} {
		given := roomyDraws(draws(1, 2))
		if x(given) == api.OK {
			t.Errorf("P19.1: no error")
		}
		areUntouched(t, "refused", given, draws(1, 2))
	}
}

func (b *bench) isPublishedCode(what string, draws [][]byte, code api.Errno) {
	b.t.Helper()
	_, e := b.publish(what, draws...)
	isCode(b.t, "P19.5: "+what, e, code)
}

// P19.1: draws that lie in one array, one in another's spare room, over each other.
func TestDrawsOfOneArray(t *testing.T) {
	array := steps(0x17, 100)
	b := created(t, wideLimits(9, 9))
	b.isPublished("one array", [][]byte{array[0:32], array[32:64], array[1:33], array[:32], array[68:]}, 0, 1, 2, 3, 4, 5)
	if !bytes.Equal(array, steps(0x17, 100)) {
		t.Errorf("P19.1: the array is another one")
	}
	for i, from := range []int{0, 32, 1, 0, 68} {
		if p, e := b.find("one array", uint32(i+1)); e != 0 || p != wordsPair(steps(byte(0x17+from), 32)) {
			t.Errorf("P19.5: prekey %d is %x, %d", i+1, p, e)
		}
	}
}

// P19.1: Records leaves its draw as it is, and keeps nothing of it.
func TestRecordsDrawStays(t *testing.T) {
	for _, length := range []int{0, 31, 32, 33} {
		for _, lim := range []api.Limits{someLimits(), {}} {
			given := roomy(steps(5, length))
			list, e := keyring.Records(lim, given)
			if !bytes.Equal(whole(given), whole(roomy(steps(5, length)))) {
				t.Errorf("P19.1: %d bytes: the draw, or what lies behind it, is another one", length)
			}
			spoil(given)
			if want, code := wordsRecords(lim, steps(5, length)); e != code || !sameList(list, want) {
				t.Errorf("P19.1: %d bytes: the answer has changed with the draw", length)
			}
		}
	}
}

// P19.1: what Records hands out is new: each key and value of its own, the list too, and so with every answer.
func TestRecordsAreNew(t *testing.T) {
	want, _ := wordsRecords(someLimits(), draw(1))
	parts := func(list []api.Record) [][]byte {
		var all [][]byte
		for _, r := range list {
			all = append(all, r.Key, r.Value)
		}
		return all
	}
	first, _ := keyring.Records(someLimits(), draw(1))
	second, _ := keyring.Records(someLimits(), draw(1))
	b := laidOut(t, first)
	expected := append(parts(want), parts(want)...)
	got := append(parts(first), parts(second)...)
	for i, part := range got {
		spoil(part)
		for k := i + 1; k < len(got); k++ {
			if !bytes.Equal(got[k], expected[k]) {
				t.Fatalf("P19.1: parts %d and %d share memory", i, k)
			}
		}
	}
	for i := range whole(first) {
		whole(first)[i] = rec(9, four(9), four(9))
	}
	if len(second) != 3 || second[0].Table != 1 || second[1].Table != 2 || second[2].Table != 7 {
		t.Errorf("P19.1: two lists share memory")
	}
	if again, e := keyring.Records(someLimits(), draw(1)); e != 0 || !sameList(again, want) {
		t.Errorf("P19.1: another answer the next time: %s, %d", told(again), e)
	}
	b.base, b.list = want, want
	b.isSeen("written into what Records answered")
}

// P19.1: offers and numbers are new memory, spare room too: what is written into them is seen nowhere.
func TestAnswersAreNew(t *testing.T) {
	b := created(t, wideLimits(64, 64))
	offers := make([][]api.Offer, 3)
	want := make([][]api.Offer, 3)
	for i := range offers {
		offers[i], _ = b.publish("an answer", draws(10*i, 1+2*i)...)
		want[i] = slices.Clone(offers[i])
	}
	for i, list := range offers {
		for k := range whole(list) {
			whole(list)[k] = api.Offer{Prekey: 77}
		}
		_ = append(list, api.Offer{Prekey: 78})
		for k := i + 1; k < len(offers); k++ {
			if !slices.Equal(offers[k], want[k]) {
				t.Errorf("P19.1: offers %d and %d share memory", i, k)
			}
		}
	}
	b.isSeen("offers are written into")
	first, _ := b.numbers("first")
	second, _ := b.numbers("second")
	told := slices.Clone(second)
	for k := range whole(first) {
		whole(first)[k] = 99
	}
	_ = append(first, 98)
	if !slices.Equal(second, told) {
		t.Errorf("P19.1: two answers of Numbers share memory")
	}
	b.areNumbers("written into", 1, 2, 3, 4, 5, 6, 7, 8, 9)
	p, _ := b.find("a pair", 1)
	clear(p.Priv[:])
	b.find("a pair again", 1)
	b.isPublished("one more", draws(50, 1), 0, 10)
}
