package seal_test

import (
	"bytes"
	"fmt"
	"math"
	"testing"

	"lethe/aes"
	"lethe/api"
	"lethe/kdf"
	"lethe/seal"
)

// P5.4: the chapter's examples, and that Open takes them (P5.5).
func TestSealExamples(t *testing.T) {
	ones := api.Key(bytes.Repeat([]byte{1}, 32))
	for _, c := range []struct {
		what       string
		key        api.Key
		data, text string
		want       string
	}{
		{"no data, no text", api.Key{}, "", "", "b391c173930475e48d0292b483b21135d67f5b83ae09ed3ad66376a4ab14ef05"},
		{"hello", api.Key{}, "d", "hello", "799f8d679e" + "95a49b6676d2f64677fd83f5da12434abc5603fc9ec187757f1cf05f0f7c3672"},
		{"33 zeros", ones, "", string(make([]byte, 33)), "abc20f088ec335befa9aeb1bdca6e7b208a7c8259226b35a2062ceb1c7b7a75231" + "d38d2be6efab9b194fa935c14b30e1dae089945f9084b0baf22da30e32bd5d57"},
	} {
		want := unhex(t, c.want)
		got, e := seal.Seal(c.key, []byte(c.data), []byte(c.text))
		wantBytes(t, "Seal, "+c.what, got, e, want)
		got, e = seal.Open(c.key, []byte(c.data), want)
		wantBytes(t, "Open, "+c.what, got, e, []byte(c.text))
	}
}

// P5.2, P5.3, P5.4: at all edges, what the library's HKDF, AES and HMAC make from the chapter's words; Length(n) bytes.
func TestSealAgainstTheModel(t *testing.T) {
	for _, key := range keys() {
		m := newModel(t, key)
		for _, d := range dataEdges {
			for _, n := range textEdges {
				what := fmt.Sprintf("key %x, %d bytes of data, a text of %d", key, d, n)
				data, text := someBytes(d), someBytes(n)
				got, e := seal.Seal(key, data, text)
				wantBytes(t, what, got, e, m.sealed(t, data, text))
				if len(got) != seal.Length(n) {
					t.Fatalf("%s: %d bytes, Length is %d", what, len(got), seal.Length(n))
				}
			}
		}
	}
}

// P5.2: of the derived bytes the first 32 serve the cipher, the next 32 the tag, the last 16 are the first block.
func TestThreeKeys(t *testing.T) {
	data, text := someBytes(7), someBytes(50)
	for _, key := range keys() {
		all, e := kdf.Derive(make([]byte, 32), key[:], []byte("lethe seal"), 80)
		if e != api.OK {
			t.Fatalf("Derive: error %d", e)
		}
		c, e := aes.New(all[:32])
		if e != api.OK {
			t.Fatalf("New: error %d", e)
		}
		hidden := c.Stream([16]byte(all[64:]), text)
		tag := kdf.Mac(all[32:64], data, hidden, []byte{0, 0, 0, 0, 0, 0, 0, 7})
		got, e := seal.Seal(key, data, text)
		wantBytes(t, fmt.Sprintf("key %x", key), got, e, joined(hidden, tag[:]))
	}
}

// P5.3: the length of data is bound: what is cut off data's end and put ahead of the cipher bytes, or the other way round, has another tag.
func TestSeamBetweenDataAndText(t *testing.T) {
	for _, key := range keys() {
		for _, c := range [][2]int{{0, 16}, {1, 1}, {5, 40}, {300, 100}} {
			data := someBytes(c[0])
			s := sealed(t, key, data, someBytes(c[1]))
			both := joined(data, s)
			for cut := range c[0] + c[1] + 1 {
				if cut == c[0] || len(both)-cut > seal.Length(api.MaxText) {
					continue
				}
				got, e := seal.Open(key, both[:cut], both[cut:])
				wantRefusal(t, fmt.Sprintf("%d bytes of data, a text of %d, cut at %d", c[0], c[1], cut), got, e, api.ErrTag)
			}
		}
	}
}

// P5.3: data counts byte by byte, zeros too; the cipher bytes hang on none of it.
func TestDataCounts(t *testing.T) {
	text := someBytes(20)
	seen := map[string]int{}
	for n := range 70 {
		s := sealed(t, api.Key{}, make([]byte, n), text)
		tag := string(s[20:])
		if other, ok := seen[tag]; ok {
			t.Errorf("%d and %d zeros of data have one tag", other, n)
		}
		seen[tag] = n
		if want := sealed(t, api.Key{}, nil, text)[:20]; !bytes.Equal(s[:20], want) {
			t.Errorf("%d zeros of data: the cipher bytes are %x, want %x", n, s[:20], want)
		}
	}
}

// P5.4: no longer text than MaxText, no longer data than MaxBytes, and both together.
func TestSealRefuses(t *testing.T) {
	for _, key := range keys()[:3] {
		for _, c := range [][2]int{{0, 513}, {0, 514}, {0, 1 << 16}, {1, 513}, {65535, 513}, {65536, 0}, {65536, 512}, {65536, 513}, {1 << 20, 1}, {1 << 20, 1 << 20}} {
			got, e := seal.Seal(key, someBytes(c[0]), someBytes(c[1]))
			wantRefusal(t, fmt.Sprintf("%d bytes of data, a text of %d", c[0], c[1]), got, e, api.ErrLong)
		}
		for _, c := range [][2]int{{0, 512}, {65535, 0}, {65535, 512}} {
			if got, e := seal.Seal(key, someBytes(c[0]), someBytes(c[1])); e != api.OK || len(got) != c[1]+32 {
				t.Errorf("%d bytes of data, a text of %d: %d bytes, error %d", c[0], c[1], len(got), e)
			}
		}
	}
}

// P5.1: nil and a list without elements are one and the same.
func TestNilIsEmpty(t *testing.T) {
	want := sealed(t, api.Key{1}, nil, nil)
	for _, data := range [][]byte{nil, {}} {
		for _, text := range [][]byte{nil, {}} {
			got, e := seal.Seal(api.Key{1}, data, text)
			wantBytes(t, "Seal of nothing", got, e, want)
			got, e = seal.Open(api.Key{1}, data, got)
			wantBytes(t, "Open of nothing", got, e, nil)
		}
	}
	got, e := seal.Open(api.Key{1}, nil, nil)
	wantRefusal(t, "Open of nil", got, e, api.ErrShort)
}

// P5.6: every n that a text may have, both sides of the ends, and numbers at which a sum would wrap round.
func TestLength(t *testing.T) {
	for n := range api.MaxText + 1 {
		if got := seal.Length(n); got != n+32 {
			t.Errorf("Length(%d) = %d", n, got)
		}
	}
	for _, n := range []int{-1, -2, -31, -32, -33, -512, -544, math.MinInt32, math.MinInt + 1, math.MinInt, 513, 514, 544, 545, 65535, math.MaxInt32, math.MaxInt - 32, math.MaxInt - 31, math.MaxInt} {
		if got := seal.Length(n); got != 0 {
			t.Errorf("Length(%d) = %d, want 0", n, got)
		}
	}
}

// P5.9: two texts' XOR, as far as both reach, is that of their cipher bytes, whatever the data.
func TestCipherBytesAreAStream(t *testing.T) {
	for _, key := range keys() {
		for _, n := range textEdges {
			for _, k := range textEdges {
				a, b := someBytes(n), bytes.Repeat([]byte{0x5a}, k)
				one := sealed(t, key, nil, a)[:n]
				two := sealed(t, key, someBytes(9), b)[:k]
				if got, want := added(one, two), added(a, b); !bytes.Equal(got, want) {
					t.Fatalf("key %x, texts of %d and %d: %x, want %x", key, n, k, got, want)
				}
			}
		}
	}
}
