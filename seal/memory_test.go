package seal_test

import (
	"bytes"
	"fmt"
	"math/rand"
	"testing"

	"lethe/api"
	"lethe/seal"
)

// P5.1: what is handed in stays, spare room too, whether it is taken or refused, and whatever is then written into the answer; and the answer hangs on none of it any more.
func TestHandedInStaysAsItWas(t *testing.T) {
	key := api.Key{7}
	m := newModel(t, key)
	for _, d := range []int{0, 1, 64, 65535, 65536} {
		for _, n := range []int{0, 1, 15, 16, 17, 512, 513} {
			what := fmt.Sprintf("%d bytes of data, a text of %d", d, n)
			data, text := roomy(someBytes(d)), roomy(someBytes(n))
			s := roomy(m.sealed(t, data, text))
			bad := roomy(turned(s, len(s)-1, 1))
			lists := [][]byte{data, text, s, bad}
			var before [][]byte
			for _, list := range lists {
				before = append(before, joined(whole(list)))
			}
			hidden, _ := seal.Seal(key, data, text)
			opened, _ := seal.Open(key, data, s)
			refused, _ := seal.Open(key, data, bad)
			short, _ := seal.Open(key, data, s[:31])
			wantHidden, wantOpened := joined(hidden), joined(opened)
			for i, list := range lists {
				if !bytes.Equal(whole(list), before[i]) {
					t.Fatalf("%s: list %d, or what lies behind it, has changed", what, i)
				}
				clear(whole(list))
			}
			if !bytes.Equal(hidden, wantHidden) || !bytes.Equal(opened, wantOpened) {
				t.Fatalf("%s: an answer sees what is written into what was handed in", what)
			}
			for _, out := range [][]byte{hidden, opened, refused, short} {
				for i := range whole(out) {
					whole(out)[i] = 0xaa
				}
				_ = append(out, 1, 2, 3)
			}
			for i, list := range lists {
				if !bytes.Equal(whole(list), make([]byte, cap(list))) {
					t.Fatalf("%s: list %d sees what is written into an answer", what, i)
				}
			}
		}
	}
}

// P5.1: data and text that lie in one array, in either order, over one another, or are one list.
func TestSealOfOneArray(t *testing.T) {
	key := api.Key{8}
	m := newModel(t, key)
	for _, n := range []int{0, 1, 15, 16, 17, 100, 512} {
		array := someBytes(2*n + 64)
		before := joined(array)
		for i, c := range []struct{ data, text []byte }{
			{array[:64], array[64 : 64+n]},
			{array[n:], array[:n]},
			{array[:64], array[32 : 32+n]},
			{array[:n], array[:n]},
			{array, array[n : 2*n]},
		} {
			got, e := seal.Seal(key, c.data, c.text)
			wantBytes(t, fmt.Sprintf("a text of %d, case %d", n, i), got, e, m.sealed(t, c.data, c.text))
			if !bytes.Equal(array, before) {
				t.Fatalf("a text of %d, case %d: the array has changed", n, i)
			}
		}
	}
}

// P5.1: data and a sealed text that lie in one array, in either order, or over one another.
func TestOpenOfOneArray(t *testing.T) {
	key := api.Key{9}
	m := newModel(t, key)
	for _, n := range []int{0, 1, 15, 16, 17, 100, 512} {
		data, hidden := someBytes(64), someBytes(n)
		behind := joined(data, m.tagged(data, hidden))
		ahead := joined(m.tagged(data, hidden), data)
		within := m.tagged(hidden[n/2:], hidden)
		itself := m.tagged(hidden, hidden)
		for i, c := range []struct{ array, data, sealed []byte }{
			{behind, behind[:64], behind[64:]},
			{ahead, ahead[n+32:], ahead[:n+32]},
			{within, within[n/2 : n], within},
			{itself, itself[:n], itself},
		} {
			before := joined(c.array)
			got, e := seal.Open(key, c.data, c.sealed)
			wantBytes(t, fmt.Sprintf("%d cipher bytes, case %d", n, i), got, e, m.stream(t, hidden))
			if !bytes.Equal(c.array, before) {
				t.Fatalf("%d cipher bytes, case %d: the array has changed", n, i)
			}
		}
		got, e := seal.Open(key, itself, itself)
		wantRefusal(t, fmt.Sprintf("%d cipher bytes and their tag as their own data", n), got, e, api.ErrTag)
	}
}

// P5.1: answers are new memory, spare room too: no two share any, and none holds more than was asked for.
func TestAnswersAreNew(t *testing.T) {
	key, data := api.Key{10}, someBytes(5)
	for _, n := range textEdges {
		text := someBytes(n)
		s := sealed(t, key, data, text)
		for what, ask := range map[string]func() ([]byte, api.Errno){
			"Seal": func() ([]byte, api.Errno) { return seal.Seal(key, data, text) },
			"Open": func() ([]byte, api.Errno) { return seal.Open(key, data, s) },
		} {
			one, _ := ask()
			two, _ := ask()
			want := joined(two)
			for i, b := range whole(one)[len(one):] {
				if b != 0 {
					t.Errorf("%s, a text of %d: byte %d of the spare room is %02x", what, n, i, b)
				}
			}
			for i := range whole(one) {
				whole(one)[i] ^= 0xff
			}
			_ = append(one, 1, 2, 3)
			three, e := ask()
			wantBytes(t, fmt.Sprintf("%s again, a text of %d", what, n), three, e, want)
			if !bytes.Equal(two, want) {
				t.Errorf("%s, a text of %d: an answer sees what was written into another", what, n)
			}
		}
	}
}

// P5.1: nothing is kept from call to call: calls of many keys, in any order, answer as if each were the first; and none panics, whatever it is given.
func TestCallsInTurns(t *testing.T) {
	random := rand.New(rand.NewSource(11))
	all := keys()
	for range 1500 {
		key := all[random.Intn(len(all))]
		m := newModel(t, key)
		data, text := someBytes(random.Intn(80)), someBytes(random.Intn(560))
		want := m.sealed(t, data, text)
		got, e := seal.Seal(key, data, text)
		if len(text) > 512 {
			wantRefusal(t, "Seal of a long text", got, e, api.ErrLong)
			got, e = seal.Open(key, data, want)
			wantRefusal(t, "Open of a long text", got, e, api.ErrLong)
			continue
		}
		wantBytes(t, "Seal", got, e, want)
		junk := someBytes(32 + random.Intn(513))
		got, e = seal.Open(key, data, junk)
		wantRefusal(t, "Open of junk", got, e, api.ErrTag)
		got, e = seal.Open(key, data, want)
		wantBytes(t, "Open", got, e, text)
	}
}
