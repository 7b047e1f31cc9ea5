package wire_test

import (
	"bytes"
	"math"
	"testing"

	"lethe/api"
	"lethe/wire"
)

func wantFault(t *testing.T, what string, r *wire.Reader, at int, e api.Errno) {
	t.Helper()
	if n, f := r.Fault(); n != at || f != e {
		t.Errorf("%s: Fault: %d, %d, want %d, %d", what, n, f, at, e)
	}
}

func wantLeft(t *testing.T, what string, r *wire.Reader, n int) {
	t.Helper()
	if got := r.Left(); got != n {
		t.Errorf("%s: Left: %d, want %d", what, got, n)
	}
}

// P1.9, P1.1
func TestNewReaderCopies(t *testing.T) {
	part, whole := spare(1, 2, 3, 4, 5)
	r := wire.NewReader(part)
	spoil(whole)
	wantLeft(t, "a new reader", r, 5)
	wantFault(t, "a new reader", r, 0, api.OK)
	wantBytes(t, "what was handed in, behind its change", r.Fixed(5), 1, 2, 3, 4, 5)
	r.End()
	wantFault(t, "all bytes read", r, 0, api.OK)
	for _, none := range [][]byte{nil, {}} {
		r = wire.NewReader(none)
		wantLeft(t, "a reader of no bytes", r, 0)
		r.End()
		wantFault(t, "a reader of no bytes", r, 0, api.OK)
	}
}

// P1.10
func TestReaderNumbers(t *testing.T) {
	r := wire.NewReader([]byte{0, 255, 0, 0, 1, 2, 255, 255, 0, 0, 0, 0, 1, 2, 3, 4, 255, 255, 255, 254, 9})
	left := 21
	for _, want := range []int{0, 255} {
		if n := r.U8(); n != want {
			t.Errorf("U8: %d, want %d", n, want)
		}
		left--
		wantLeft(t, "behind U8", r, left)
	}
	for _, want := range []int{0, 258, 65535} {
		if n := r.U16(); n != want {
			t.Errorf("U16: %d, want %d", n, want)
		}
		left -= 2
		wantLeft(t, "behind U16", r, left)
	}
	for _, want := range []uint32{0, 0x01020304, 1<<32 - 2} {
		if n := r.U32(); n != want {
			t.Errorf("U32: %d, want %d", n, want)
		}
		left -= 4
		wantLeft(t, "behind U32", r, left)
	}
	wantFault(t, "numbers that are there", r, 0, api.OK)
}

// P1.10
func TestReaderBytes(t *testing.T) {
	r := wire.NewReader([]byte{1, 2, 3, 0, 2, 0xaa, 0xbb, 0, 0, 0, 1, 7})
	wantBytes(t, "Fixed(0)", r.Fixed(0))
	wantLeft(t, "behind Fixed(0)", r, 12)
	wantBytes(t, "Fixed(1)", r.Fixed(1), 1)
	wantBytes(t, "Fixed(2)", r.Fixed(2), 2, 3)
	wantLeft(t, "behind Fixed(2)", r, 9)
	wantBytes(t, "a run at its bound", r.Run(2), 0xaa, 0xbb)
	wantLeft(t, "behind a run", r, 5)
	wantBytes(t, "a run of none", r.Run(0))
	wantLeft(t, "behind a run of none", r, 3)
	wantBytes(t, "a run below its bound", r.Run(math.MaxInt), 7)
	wantLeft(t, "at the end", r, 0)
	wantBytes(t, "Fixed(0) at the end", r.Fixed(0))
	wantFault(t, "bytes that are there", r, 0, api.OK)
}

// P1.10: a run's number has two bytes, both of which count.
func TestReaderLongRuns(t *testing.T) {
	for _, n := range []int{255, 256, 258, api.MaxBytes} {
		b := bytes.Repeat([]byte{7}, n)
		r := wire.NewReader(append([]byte{byte(n / 256), byte(n % 256)}, b...))
		wantBytes(t, "a long run", r.Run(n), b...)
		wantLeft(t, "a long run", r, 0)
		r = wire.NewReader(append([]byte{byte(n / 256), byte(n % 256)}, b...))
		wantBytes(t, "a long run above its bound", r.Run(n-1))
		wantFault(t, "a long run above its bound", r, 0, api.ErrSize)
	}
}

// readings: each way to read, how many bytes it asks for at least.
func readings() []struct {
	name  string
	needs int
	read  func(*wire.Reader) (zero bool)
} {
	return []struct {
		name  string
		needs int
		read  func(*wire.Reader) (zero bool)
	}{
		{"U8", 1, func(r *wire.Reader) bool { return r.U8() == 0 }},
		{"U16", 2, func(r *wire.Reader) bool { return r.U16() == 0 }},
		{"U32", 4, func(r *wire.Reader) bool { return r.U32() == 0 }},
		{"Fixed", 3, func(r *wire.Reader) bool { return len(r.Fixed(3)) == 0 }},
		{"Run", 2, func(r *wire.Reader) bool { return len(r.Run(math.MaxInt)) == 0 }},
	}
}

// P1.10, P1.12: ErrShort of each kind of field, wherever it begins.
func TestReaderShort(t *testing.T) {
	for _, f := range readings() {
		for ahead := range 4 {
			for left := range f.needs {
				r := wire.NewReader(bytes.Repeat([]byte{1}, ahead+left))
				r.Fixed(ahead)
				if !f.read(r) {
					t.Errorf("%s of %d bytes: an answer that isn't zero", f.name, left)
				}
				wantFault(t, f.name, r, ahead, api.ErrShort)
				wantLeft(t, f.name, r, left)
			}
		}
	}
}

// P1.10
func TestReaderFixedOutOfRange(t *testing.T) {
	for _, n := range append([]int{4}, extremes...) {
		r := wire.NewReader([]byte{1, 2, 3, 4})
		r.U8()
		want := api.ErrShort
		if n < 0 {
			want = api.ErrPlace
		}
		wantBytes(t, "Fixed", r.Fixed(n))
		wantFault(t, "Fixed", r, 1, want)
		wantLeft(t, "Fixed", r, 3)
	}
	r := wire.NewReader(nil)
	wantBytes(t, "Fixed(-1) of no bytes", r.Fixed(-1))
	wantFault(t, "Fixed(-1) of no bytes", r, 0, api.ErrPlace)
}

// P1.10, rule 1: the faults of a run, in their order.
func TestReaderRunFaults(t *testing.T) {
	for _, c := range []struct {
		b    []byte
		most int
		e    api.Errno
	}{
		{nil, 5, api.ErrShort},
		{nil, -1, api.ErrShort},
		{[]byte{0}, 5, api.ErrShort},
		{[]byte{9}, 5, api.ErrShort},
		{[]byte{0}, math.MinInt, api.ErrShort},
		{[]byte{0, 0}, -1, api.ErrSize},
		{[]byte{0, 0}, math.MinInt, api.ErrSize},
		{[]byte{0, 1}, 0, api.ErrSize},
		{[]byte{0, 1, 7}, 0, api.ErrSize},
		{[]byte{0, 3, 7}, 2, api.ErrSize},
		{[]byte{1, 0}, 255, api.ErrSize},
		{[]byte{0, 1}, 1, api.ErrShort},
		{[]byte{0, 3, 7}, 3, api.ErrShort},
		{[]byte{0, 3, 7, 8}, 3, api.ErrShort},
		{[]byte{0, 3, 7, 8}, math.MaxInt, api.ErrShort},
		{[]byte{255, 255, 7}, math.MaxInt, api.ErrShort},
	} {
		for ahead := range 3 {
			r := wire.NewReader(append(make([]byte, ahead), c.b...))
			r.Fixed(ahead)
			if b := r.Run(c.most); len(b) != 0 {
				t.Errorf("Run(%d) of %x: %x", c.most, c.b, b)
			}
			wantFault(t, "a run", r, ahead, c.e)
			wantLeft(t, "a run", r, len(c.b))
		}
	}
}

// P1.10 to P1.12: the first fault stays, and the reader with it, whatever follows, be it right or wrong.
func TestReaderFirstFaultStays(t *testing.T) {
	faults := []struct {
		e    api.Errno
		read func(*wire.Reader)
	}{
		{api.ErrShort, func(r *wire.Reader) { r.Fixed(100) }},
		{api.ErrPlace, func(r *wire.Reader) { r.Fixed(-1) }},
		{api.ErrSize, func(r *wire.Reader) { r.Run(0) }},
		{api.ErrShort, func(r *wire.Reader) { r.Run(65535) }},
		{api.ErrTail, func(r *wire.Reader) { r.End() }},
	}
	for _, first := range faults {
		for _, second := range faults {
			r := wire.NewReader([]byte{9, 1, 1, 1, 1, 1, 1})
			r.U8()
			first.read(r)
			wantFault(t, "the first fault", r, 1, first.e)
			second.read(r)
			wantFault(t, "a second fault", r, 1, first.e)
			for _, f := range readings() {
				if !f.read(r) {
					t.Errorf("%s behind fault %d: an answer that isn't zero", f.name, first.e)
				}
			}
			wantBytes(t, "Fixed(1) behind a fault", r.Fixed(1))
			wantBytes(t, "Fixed(0) behind a fault", r.Fixed(0))
			wantFault(t, "behind further fields", r, 1, first.e)
			wantLeft(t, "behind further fields", r, 6)
		}
	}
}

// P1.10: a run that would be whole is none behind a fault.
func TestReaderRunBehindFault(t *testing.T) {
	r := wire.NewReader([]byte{0, 1, 7})
	r.Fixed(4)
	wantBytes(t, "a run behind a fault", r.Run(1))
	wantFault(t, "a run behind a fault", r, 0, api.ErrShort)
	wantLeft(t, "a run behind a fault", r, 3)
}

// P1.11, P1.12
func TestReaderEnd(t *testing.T) {
	b := []byte{5, 6, 7}
	for read := range len(b) {
		r := wire.NewReader(b)
		r.Fixed(read)
		wantFault(t, "ahead of End", r, 0, api.OK)
		r.End()
		wantFault(t, "End ahead of bytes", r, read, api.ErrTail)
		wantLeft(t, "End ahead of bytes", r, len(b)-read)
		if n := r.U8(); n != 0 {
			t.Errorf("U8 behind End's fault: %d", n)
		}
	}
	r := wire.NewReader(b)
	r.Fixed(3)
	r.End()
	r.End()
	wantFault(t, "End at the end", r, 0, api.OK)
	wantLeft(t, "End at the end", r, 0)
	r.U8()
	wantFault(t, "a field behind the end", r, 3, api.ErrShort)
	r.End()
	wantFault(t, "End behind a fault at the end", r, 3, api.ErrShort)
}

// P1.9 to P1.12: the chapter's worked examples.
func TestReaderExamples(t *testing.T) {
	r := wire.NewReader([]byte{1, 0, 2, 0xaa, 0xbb, 0xcc})
	if n := r.U8(); n != 1 {
		t.Errorf("U8: %d", n)
	}
	wantBytes(t, "Run(2)", r.Run(2), 0xaa, 0xbb)
	wantLeft(t, "behind the run", r, 1)
	if n := r.U16(); n != 0 {
		t.Errorf("U16: %d", n)
	}
	wantFault(t, "U16", r, 5, api.ErrShort)
	if n := r.U8(); n != 0 {
		t.Errorf("U8 behind a fault: %d", n)
	}
	wantLeft(t, "behind a fault", r, 1)
	r = wire.NewReader([]byte{0, 3, 0xaa})
	wantBytes(t, "Run(2)", r.Run(2))
	wantFault(t, "Run(2)", r, 0, api.ErrSize)
	r = wire.NewReader([]byte{0, 3, 0xaa})
	wantBytes(t, "Run(3)", r.Run(3))
	wantFault(t, "Run(3)", r, 0, api.ErrShort)
	r = wire.NewReader([]byte{5, 6})
	if n := r.U8(); n != 5 {
		t.Errorf("U8: %d", n)
	}
	r.End()
	wantFault(t, "End", r, 1, api.ErrTail)
}

// P1.1: each field is new memory, spare room too; nothing is written into what was handed in.
func TestReaderGivesNewMemory(t *testing.T) {
	from, whole := spare(1, 2, 0, 2, 3, 4, 0, 1, 5, 6)
	r := wire.NewReader(from)
	a := r.Fixed(2)
	b := r.Run(2)
	_ = append(a, 9, 9, 9, 9)
	spoil(a)
	_ = append(b, 9, 9, 9, 9)
	wantBytes(t, "a run, behind a change of the field ahead", b, 3, 4)
	spoil(b)
	c := r.Run(1)
	wantBytes(t, "the next run", c, 5)
	_ = append(c, 9)
	spoil(c)
	if n := r.U8(); n != 6 {
		t.Errorf("the next number: %d", n)
	}
	wantBytes(t, "what was handed in", whole, 1, 2, 0, 2, 3, 4, 0, 1, 5, 6, 0xe1, 0xe2, 0xe3, 0xe4)
}

// P1.1: two readers of the same bytes know nothing of one another.
func TestReadersApart(t *testing.T) {
	b := []byte{1, 2}
	one, two := wire.NewReader(b), wire.NewReader(b)
	spoil(one.Fixed(2))
	one.U8()
	wantFault(t, "the one", one, 2, api.ErrShort)
	wantFault(t, "the other", two, 0, api.OK)
	wantLeft(t, "the other", two, 2)
	if n := two.U16(); n != 258 {
		t.Errorf("the other: U16: %d", n)
	}
}
