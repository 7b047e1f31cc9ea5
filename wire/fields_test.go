package wire_test

import (
	"bytes"
	"math/rand"
	"testing"

	"lethe/api"
	"lethe/wire"
)

// field: of a kind, with a number or bytes; a step of a script that is written and read.
type field struct {
	kind   int
	number uint32
	bytes  []byte
}

// The kinds of fields.
const (
	u8 = iota
	u16
	u32
	fixed
	run
	kinds
)

func (f field) size() int {
	return []int{1, 2, 4, len(f.bytes), 2 + len(f.bytes)}[f.kind]
}

func (f field) write(w *wire.Writer) {
	switch f.kind {
	case u8:
		w.U8(int(f.number))
	case u16:
		w.U16(int(f.number))
	case u32:
		w.U32(f.number)
	case fixed:
		half := len(f.bytes) / 2
		w.Fixed(f.bytes[:half], nil, f.bytes[half:])
	case run:
		w.Run(f.bytes)
	}
}

func (f field) read(r *wire.Reader) field {
	got := field{kind: f.kind}
	switch f.kind {
	case u8:
		got.number = uint32(r.U8())
	case u16:
		got.number = uint32(r.U16())
	case u32:
		got.number = r.U32()
	case fixed:
		got.bytes = r.Fixed(len(f.bytes))
	case run:
		got.bytes = r.Run(len(f.bytes))
	}
	return got
}

func (f field) equal(g field) bool {
	return f.kind == g.kind && f.number == g.number && bytes.Equal(f.bytes, g.bytes)
}

// someFields: a script that hangs on the seed alone.
func someFields(seed int64) []field {
	random := rand.New(rand.NewSource(seed))
	list := make([]field, random.Intn(9))
	for i := range list {
		f := field{kind: random.Intn(kinds)}
		switch f.kind {
		case u8:
			f.number = uint32(random.Intn(256))
		case u16:
			f.number = uint32(random.Intn(65536))
		case u32:
			f.number = random.Uint32()
		default:
			f.bytes = make([]byte, random.Intn(6))
			random.Read(f.bytes)
		}
		list[i] = f
	}
	return list
}

func written(t *testing.T, list []field) []byte {
	t.Helper()
	size := 0
	for _, f := range list {
		size += f.size()
	}
	w := writer(t, size)
	for _, f := range list {
		f.write(w)
	}
	b, e := w.Out()
	if e != api.OK || len(b) != size {
		t.Fatalf("Out: %d bytes of %d, %d", len(b), size, e)
	}
	return b
}

// P1.13: the same fields come back, nothing left.
func TestThereAndBack(t *testing.T) {
	for seed := range int64(300) {
		list := someFields(seed)
		r := wire.NewReader(written(t, list))
		for i, f := range list {
			if got := f.read(r); !got.equal(f) {
				t.Fatalf("seed %d, field %d: %v, want %v", seed, i, got, f)
			}
		}
		wantLeft(t, "all fields read", r, 0)
		r.End()
		wantFault(t, "all fields read", r, 0, api.OK)
	}
}

// P1.13: of cut bytes, the first field that is no longer whole ends in ErrShort, at its first byte.
func TestCutBytes(t *testing.T) {
	for seed := range int64(100) {
		list := someFields(seed)
		b := written(t, list)
		for cut := range len(b) {
			r := wire.NewReader(b[:cut])
			at, end := -1, 0 // where the first field stands that isn't whole; where the field ends that is being read
			for i, f := range list {
				got := f.read(r)
				if end += f.size(); end > cut && at < 0 {
					at = end - f.size()
				}
				if at < 0 && !got.equal(f) || at >= 0 && !got.equal(field{kind: f.kind}) {
					t.Fatalf("seed %d, cut at %d, field %d: %v", seed, cut, i, got)
				}
			}
			wantFault(t, "cut bytes", r, at, api.ErrShort)
			wantLeft(t, "cut bytes", r, cut-at)
		}
	}
}

// P1.13: with bytes behind, End tells ErrTail there.
func TestBytesBehind(t *testing.T) {
	for seed := range int64(100) {
		list := someFields(seed)
		b := written(t, list)
		r := wire.NewReader(append(bytes.Clone(b), make([]byte, 1+seed%3)...))
		for _, f := range list {
			f.read(r)
		}
		wantFault(t, "ahead of End", r, 0, api.OK)
		r.End()
		wantFault(t, "End", r, len(b), api.ErrTail)
	}
}

// P1.1: whatever is written and read at random, no call panics, and a writer never holds more than it may.
func TestNothingPanics(t *testing.T) {
	random := rand.New(rand.NewSource(1))
	number := func() int {
		if random.Intn(3) == 0 {
			return extremes[random.Intn(len(extremes))]
		}
		return random.Intn(600) - 40
	}
	for range 2000 {
		most := random.Intn(40)
		w := writer(t, most)
		from := make([]byte, random.Intn(20))
		random.Read(from)
		for i := range from {
			from[i] %= 4
		}
		r := wire.NewReader(from)
		for range 12 {
			b := make([]byte, random.Intn(12))
			switch random.Intn(kinds + 1) {
			case u8:
				w.U8(number())
				r.U8()
			case u16:
				w.U16(number())
				r.U16()
			case u32:
				w.U32(random.Uint32())
				r.U32()
			case fixed:
				w.Fixed(b, nil, b)
				r.Fixed(number())
			case run:
				w.Run(b)
				r.Run(number())
			default:
				r.End()
			}
			if out, e := w.Out(); len(out) > most || e != api.OK && len(out) != 0 {
				t.Fatalf("a writer of %d holds %d bytes, %d", most, len(out), e)
			}
			if at, e := r.Fault(); e == api.OK && at != 0 || e != api.OK && at != len(from)-r.Left() || r.Left() < 0 {
				t.Fatalf("a reader of %x: the fault is %d, %d, %d bytes left", from, at, e, r.Left())
			}
		}
	}
}
