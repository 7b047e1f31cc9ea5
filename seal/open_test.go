package seal_test

import (
	"fmt"
	"math/rand"
	"testing"

	"lethe/api"
	"lethe/seal"
)

// P5.5: the chapter's examples of what is refused.
func TestOpenExamples(t *testing.T) {
	s := unhex(t, "799f8d679e"+"95a49b6676d2f64677fd83f5da12434abc5603fc9ec187757f1cf05f0f7c3672")
	got, e := seal.Open(api.Key{}, []byte("d"), s)
	wantBytes(t, "the data d", got, e, []byte("hello"))
	got, e = seal.Open(api.Key{}, []byte("e"), s)
	wantRefusal(t, "the data e", got, e, api.ErrTag)
	got, e = seal.Open(api.Key{}, []byte("d"), turned(s, len(s)-1, 1))
	wantRefusal(t, "the last byte turned", got, e, api.ErrTag)
	got, e = seal.Open(api.Key{}, nil, make([]byte, 31))
	wantRefusal(t, "31 bytes", got, e, api.ErrShort)
	got, e = seal.Open(api.Key{}, nil, make([]byte, 545))
	wantRefusal(t, "545 bytes", got, e, api.ErrLong)
}

// P5.5: at all edges, what the library's parts have sealed is opened.
func TestOpenAgainstTheModel(t *testing.T) {
	for _, key := range keys() {
		m := newModel(t, key)
		for _, d := range dataEdges {
			for _, n := range textEdges {
				data, text := someBytes(d), someBytes(n)
				got, e := seal.Open(key, data, m.sealed(t, data, text))
				wantBytes(t, fmt.Sprintf("key %x, %d bytes of data, a text of %d", key, d, n), got, e, text)
			}
		}
	}
}

// P5.5: the bounds of what comes, in their order; what is too long is refused though its tag be right.
func TestOpenRefusesLengths(t *testing.T) {
	for _, key := range keys()[:3] {
		m := newModel(t, key)
		for _, d := range []int{0, 1, 65535, 65536, 1 << 20} {
			data := someBytes(d)
			for _, n := range []int{0, 1, 30, 31} {
				got, e := seal.Open(key, data, someBytes(n))
				wantRefusal(t, fmt.Sprintf("%d bytes of data, %d sealed", d, n), got, e, api.ErrShort)
			}
			for _, n := range []int{513, 514, 1000, 65536} {
				what := fmt.Sprintf("%d bytes of data, %d sealed", d, n+32)
				got, e := seal.Open(key, data, someBytes(n+32))
				wantRefusal(t, what, got, e, api.ErrLong)
				got, e = seal.Open(key, data, m.tagged(data, someBytes(n)))
				wantRefusal(t, what+", the tag right", got, e, api.ErrLong)
			}
			want := api.ErrTag
			if d > 65535 {
				want = api.ErrLong
			}
			for _, n := range []int{0, 1, 16, 511, 512} {
				what := fmt.Sprintf("%d bytes of data, %d sealed", d, n+32)
				got, e := seal.Open(key, data, make([]byte, n+32))
				wantRefusal(t, what, got, e, want)
				if d > 65535 {
					got, e = seal.Open(key, data, m.tagged(data, someBytes(n)))
					wantRefusal(t, what+", the tag right", got, e, want)
				}
			}
		}
	}
}

// P5.7: Open of what Seal has made is the text, at every length.
func TestThereAndBack(t *testing.T) {
	for n := range api.MaxText + 1 {
		key, data, text := api.Key{byte(n), byte(n >> 8)}, someBytes(n%65), someBytes(n)
		got, e := seal.Open(key, data, sealed(t, key, data, text))
		wantBytes(t, fmt.Sprintf("a text of %d", n), got, e, text)
	}
}

// P5.7: whatever cipher bytes come with their tag are taken, and Seal makes just them of the text that they hold.
func TestOneForm(t *testing.T) {
	random := rand.New(rand.NewSource(7))
	for _, key := range keys() {
		m := newModel(t, key)
		for range 40 {
			hidden, data := make([]byte, random.Intn(api.MaxText+1)), make([]byte, random.Intn(100))
			random.Read(hidden)
			random.Read(data)
			came := m.tagged(data, hidden)
			text, e := seal.Open(key, data, came)
			wantBytes(t, "Open of what the model has tagged", text, e, m.stream(t, hidden))
			again, e := seal.Seal(key, data, text)
			wantBytes(t, "Seal of what Open has told", again, e, came)
		}
	}
}

// P5.8: each bit of each byte, at all edges.
func TestEachByteTurned(t *testing.T) {
	for _, n := range []int{0, 1, 15, 16, 17, 512} {
		key, data := api.Key{3}, []byte("data")
		s := sealed(t, key, data, someBytes(n))
		for at := range s {
			for bit := range 8 {
				got, e := seal.Open(key, data, turned(s, at, 1<<bit))
				wantRefusal(t, fmt.Sprintf("a text of %d, bit %d of byte %d turned", n, bit, at), got, e, api.ErrTag)
			}
		}
	}
}

// P5.8: every other byte that may stand in a place, and two places whose turning would cancel out.
func TestEachOtherByte(t *testing.T) {
	key, data := api.Key{4}, []byte{0}
	s := sealed(t, key, data, []byte("hello"))
	for at := range s {
		for mask := 1; mask < 256; mask++ {
			got, e := seal.Open(key, data, turned(s, at, byte(mask)))
			wantRefusal(t, fmt.Sprintf("byte %d by %02x", at, mask), got, e, api.ErrTag)
		}
		for other := range at {
			got, e := seal.Open(key, data, turned(turned(s, at, 0x81), other, 0x81))
			wantRefusal(t, fmt.Sprintf("bytes %d and %d turned", other, at), got, e, api.ErrTag)
		}
	}
}

// P5.8: bytes lost or put in, at either end, where the tag begins, and within the text.
func TestOtherLengths(t *testing.T) {
	for _, n := range []int{1, 16, 100} {
		key, data := api.Key{5}, []byte("data")
		s := sealed(t, key, data, someBytes(n))
		for _, at := range []int{0, n / 2, n, len(s)} {
			got, e := seal.Open(key, data, joined(s[:at], []byte{0}, s[at:]))
			wantRefusal(t, fmt.Sprintf("a text of %d, a zero put in at %d", n, at), got, e, api.ErrTag)
			if at < len(s) {
				got, e = seal.Open(key, data, joined(s[:at], s[at+1:]))
				wantRefusal(t, fmt.Sprintf("a text of %d, byte %d lost", n, at), got, e, api.ErrTag)
			}
		}
		got, e := seal.Open(key, data, s[:len(s)-1])
		wantRefusal(t, fmt.Sprintf("a text of %d, the last byte lost", n), got, e, api.ErrTag)
	}
}

// P5.8: other data: each byte another, one more, one fewer, none.
func TestOtherData(t *testing.T) {
	for _, n := range []int{0, 1, 33, 512} {
		for _, d := range []int{0, 1, 64, 300} {
			key, data := api.Key{6}, someBytes(d)
			s := sealed(t, key, data, someBytes(n))
			others := [][]byte{joined(data, []byte{0}), joined([]byte{0}, data)}
			if d > 0 {
				others = append(others, nil, data[1:], data[:d-1])
			}
			for at := range data {
				others = append(others, turned(data, at, 0x01), turned(data, at, 0x80))
			}
			for _, other := range others {
				got, e := seal.Open(key, other, s)
				wantRefusal(t, fmt.Sprintf("a text of %d, data %x, opened with %x", n, data, other), got, e, api.ErrTag)
			}
		}
	}
}

// P5.8: each bit of the key.
func TestOtherKeys(t *testing.T) {
	for _, key := range keys() {
		s := sealed(t, key, nil, []byte("text"))
		for bit := range 256 {
			other := api.Key(turned(key[:], bit/8, 1<<(bit%8)))
			got, e := seal.Open(other, nil, s)
			wantRefusal(t, fmt.Sprintf("key %x, bit %d turned", key, bit), got, e, api.ErrTag)
		}
	}
}
