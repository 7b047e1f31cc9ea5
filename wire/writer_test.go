package wire_test

import (
	"bytes"
	"testing"

	"lethe/api"
	"lethe/wire"
)

func writer(t *testing.T, most int) *wire.Writer {
	t.Helper()
	w, e := wire.NewWriter(most)
	if e != api.OK || w == nil {
		t.Fatalf("NewWriter(%d): %v, %d", most, w, e)
	}
	return w
}

func wantOut(t *testing.T, what string, w *wire.Writer, want ...byte) {
	t.Helper()
	if b, e := w.Out(); e != api.OK || !bytes.Equal(b, want) {
		t.Errorf("%s: Out: %x, %d, want %x", what, b, e, want)
	}
}

func wantRefused(t *testing.T, what string, w *wire.Writer, want api.Errno) {
	t.Helper()
	if b, e := w.Out(); e != want || len(b) != 0 {
		t.Errorf("%s: Out: %x, %d, want no bytes, %d", what, b, e, want)
	}
}

// P1.6
func TestNewWriter(t *testing.T) {
	for _, most := range append([]int{api.MaxScript + 1}, extremes...) {
		if w, e := wire.NewWriter(most); e != api.ErrPlace || w != nil {
			t.Errorf("NewWriter(%d): %v, %d", most, w, e)
		}
	}
	for _, most := range []int{0, 1, api.MaxScript - 1, api.MaxScript} {
		w := writer(t, most)
		wantOut(t, "a new writer", w)
		full := make([]byte, most)
		w.Fixed(full)
		wantOut(t, "as many bytes as it may hold", w, full...)
		w.U8(0)
		wantRefused(t, "one byte more", w, api.ErrLong)
	}
}

// P1.7
func TestWriterNumbers(t *testing.T) {
	w := writer(t, 100)
	w.U8(0)
	w.U8(255)
	w.U16(0)
	w.U16(258)
	w.U16(65535)
	w.U32(0)
	w.U32(0x01020304)
	w.U32(1<<32 - 2)
	wantOut(t, "numbers", w, 0, 255, 0, 0, 1, 2, 255, 255, 0, 0, 0, 0, 1, 2, 3, 4, 255, 255, 255, 254)
}

// P1.7
func TestWriterNumbersOutOfRange(t *testing.T) {
	for _, n := range append([]int{256, 257, 65535, 65536}, extremes...) {
		w := writer(t, 100)
		w.U8(n)
		wantRefused(t, "U8", w, api.ErrPlace)
	}
	for _, n := range append([]int{65536, 65537, 1 << 24}, extremes...) {
		w := writer(t, 100)
		w.U16(n)
		wantRefused(t, "U16", w, api.ErrPlace)
	}
}

// P1.7
func TestWriterBytes(t *testing.T) {
	w := writer(t, 100)
	w.Fixed()
	w.Fixed(nil, []byte{})
	wantOut(t, "no bytes", w)
	w.Fixed([]byte{9})
	w.Fixed([]byte{1, 2}, nil, []byte{3})
	wantOut(t, "parts", w, 9, 1, 2, 3)
	w.Run([]byte{0xaa, 0xbb})
	w.Run(nil)
	w.Run([]byte{})
	wantOut(t, "runs", w, 9, 1, 2, 3, 0, 2, 0xaa, 0xbb, 0, 0, 0, 0)
}

// P1.7: a run's number has two bytes, both of which count.
func TestWriterLongRuns(t *testing.T) {
	for _, n := range []int{255, 256, 258, api.MaxBytes - 1, api.MaxBytes} {
		w := writer(t, 2+n)
		b := bytes.Repeat([]byte{7}, n)
		w.Run(b)
		wantOut(t, "a long run", w, append([]byte{byte(n / 256), byte(n % 256)}, b...)...)
	}
	for _, n := range []int{api.MaxBytes + 1, api.MaxBytes + 2, api.MaxScript} {
		w := writer(t, api.MaxScript)
		w.Run(make([]byte, n))
		wantRefused(t, "a run that is too long", w, api.ErrSize)
	}
}

// fields: one of each kind, and how many bytes it has.
func fields() []struct {
	name  string
	bytes int
	write func(*wire.Writer)
} {
	return []struct {
		name  string
		bytes int
		write func(*wire.Writer)
	}{
		{"U8", 1, func(w *wire.Writer) { w.U8(1) }},
		{"U16", 2, func(w *wire.Writer) { w.U16(2) }},
		{"U32", 4, func(w *wire.Writer) { w.U32(3) }},
		{"Fixed", 3, func(w *wire.Writer) { w.Fixed([]byte{4}, nil, []byte{5, 6}) }},
		{"Run", 5, func(w *wire.Writer) { w.Run([]byte{7, 8, 9}) }},
		{"Run of none", 2, func(w *wire.Writer) { w.Run(nil) }},
	}
}

// P1.7: ErrLong of each kind of field, at each number of bytes that are there already.
func TestWriterLong(t *testing.T) {
	for _, f := range fields() {
		for before := range 4 {
			ahead := make([]byte, before)
			w := writer(t, before+f.bytes)
			w.Fixed(ahead)
			f.write(w)
			if b, e := w.Out(); e != api.OK || len(b) != before+f.bytes {
				t.Errorf("%s behind %d bytes, that fits: %x, %d", f.name, before, b, e)
			}
			for most := before; most < before+f.bytes; most++ {
				w = writer(t, most)
				w.Fixed(ahead)
				wantOut(t, "ahead", w, ahead...)
				f.write(w)
				wantRefused(t, f.name, w, api.ErrLong)
			}
		}
	}
}

// P1.7: parts of which each fits, but not all.
func TestWriterLongParts(t *testing.T) {
	long := make([]byte, api.MaxScript)
	w := writer(t, api.MaxScript)
	w.Fixed(long, long, long, long)
	wantRefused(t, "four times as much as it may hold", w, api.ErrLong)
	w = writer(t, 3)
	w.Fixed([]byte{1, 2}, []byte{3, 4})
	wantRefused(t, "two parts", w, api.ErrLong)
}

// P1.7, rule 1: the fault that is named first.
func TestWriterFaultsInOrder(t *testing.T) {
	w := writer(t, 0)
	w.U8(256)
	wantRefused(t, "U8 out of range and too long", w, api.ErrPlace)
	w = writer(t, 1)
	w.U16(-1)
	wantRefused(t, "U16 out of range and too long", w, api.ErrPlace)
	w = writer(t, 1)
	w.Run(make([]byte, api.MaxBytes+1))
	wantRefused(t, "a run out of its bound and too long", w, api.ErrSize)
}

// P1.7, P1.8: the first fault stays, whatever follows, be it right or wrong.
func TestWriterFirstFaultStays(t *testing.T) {
	faults := []struct {
		e     api.Errno
		write func(*wire.Writer)
	}{
		{api.ErrPlace, func(w *wire.Writer) { w.U8(256) }},
		{api.ErrPlace, func(w *wire.Writer) { w.U16(-1) }},
		{api.ErrSize, func(w *wire.Writer) { w.Run(make([]byte, api.MaxBytes+1)) }},
		{api.ErrLong, func(w *wire.Writer) { w.Fixed(make([]byte, 65)) }},
		{api.ErrLong, func(w *wire.Writer) { w.Run(make([]byte, 63)) }},
	}
	for i, first := range faults {
		for _, second := range faults {
			w := writer(t, 64)
			w.U8(1)
			first.write(w)
			wantRefused(t, "the first fault", w, first.e)
			second.write(w)
			wantRefused(t, "a second fault", w, first.e)
			for _, f := range fields() {
				f.write(w)
			}
			w.Fixed()
			if b, e := w.Out(); e != first.e || len(b) != 0 {
				t.Errorf("fault %d, then fields without one: %x, %d", i, b, e)
			}
		}
	}
}

// P1.8: a writer may be written on behind Out.
func TestWriterGoesOn(t *testing.T) {
	w := writer(t, 5)
	w.U8(1)
	w.U16(258)
	wantOut(t, "three bytes", w, 1, 1, 2)
	wantOut(t, "the same once more", w, 1, 1, 2)
	w.U8(3)
	wantOut(t, "four bytes", w, 1, 1, 2, 3)
	w.U8(4)
	wantOut(t, "five bytes", w, 1, 1, 2, 3, 4)
	w.U8(5)
	wantRefused(t, "six bytes", w, api.ErrLong)
	wantRefused(t, "asked once more", w, api.ErrLong)
}

// P1.6 to P1.8: the chapter's worked examples.
func TestWriterExamples(t *testing.T) {
	w := writer(t, 5)
	w.U8(1)
	w.U16(258)
	w.U8(256)
	w.U8(7)
	wantRefused(t, "U8(256)", w, api.ErrPlace)
	w = writer(t, 5)
	w.U8(1)
	w.U16(258)
	wantOut(t, "U8(1), U16(258)", w, 1, 1, 2)
	w.Run([]byte{0xaa})
	wantRefused(t, "then a run", w, api.ErrLong)
	w = writer(t, 5)
	w.Run([]byte{0xaa, 0xbb})
	wantOut(t, "a run", w, 0, 2, 0xaa, 0xbb)
	w = writer(t, 0)
	w.Fixed()
	wantOut(t, "no bytes", w)
}

// P1.1: what is handed in is neither changed nor kept.
func TestWriterKeepsNothing(t *testing.T) {
	a, wholeA := spare(1, 2)
	b, wholeB := spare(3)
	c, wholeC := spare(4, 5)
	parts := [][]byte{a, b}
	w := writer(t, 100)
	w.Fixed(parts...)
	w.Run(c)
	w.U32(0x06070809)
	wantBytes(t, "the first part", wholeA, 1, 2, 0xe1, 0xe2, 0xe3, 0xe4)
	wantBytes(t, "the second part", wholeB, 3, 0xe1, 0xe2, 0xe3, 0xe4)
	wantBytes(t, "the run", wholeC, 4, 5, 0xe1, 0xe2, 0xe3, 0xe4)
	if &parts[0][0] != &a[0] || &parts[1][0] != &b[0] {
		t.Error("the list of parts has changed")
	}
	spoil(a)
	spoil(b)
	spoil(c)
	parts[0] = nil
	wantOut(t, "behind a change of what was handed in", w, 1, 2, 3, 0, 2, 4, 5, 6, 7, 8, 9)
}

// P1.1: a first part alone isn't kept either.
func TestWriterKeepsNoFirstPart(t *testing.T) {
	a, whole := spare(1, 2)
	w := writer(t, 100)
	w.Fixed(a)
	w.U8(3)
	wantBytes(t, "the part", whole, 1, 2, 0xe1, 0xe2, 0xe3, 0xe4)
	spoil(a)
	wantOut(t, "behind a change of the part", w, 1, 2, 3)
}

// P1.1, P1.8: what Out answers is new memory each time, spare room too.
func TestWriterGivesNewMemory(t *testing.T) {
	w := writer(t, 100)
	w.Fixed([]byte{1, 2, 3})
	one, _ := w.Out()
	two, _ := w.Out()
	spoil(one)
	wantBytes(t, "another answer", two, 1, 2, 3)
	wantOut(t, "the writer", w, 1, 2, 3)
	three, _ := w.Out()
	w.U8(4)
	_ = append(three, 9)
	spoil(three)
	wantOut(t, "the writer that was written on", w, 1, 2, 3, 4)
	four, _ := w.Out()
	w.U8(5)
	wantBytes(t, "an answer, behind further fields", four, 1, 2, 3, 4)
}

// P1.1: two writers know nothing of one another.
func TestWritersApart(t *testing.T) {
	a, b := writer(t, 2), writer(t, 3)
	a.U8(1)
	b.U8(2)
	a.U8(300)
	wantRefused(t, "the one", a, api.ErrPlace)
	b.U16(3)
	wantOut(t, "the other", b, 2, 0, 3)
	c := writer(t, 2)
	wantOut(t, "a third", c)
}
