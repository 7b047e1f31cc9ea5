package wire_test

import (
	"bytes"
	"math"
	"strings"
	"testing"

	"lethe/api"
	"lethe/wire"
)

// spare: bytes with room behind them, and the whole of which they are the beginning.
func spare(b ...byte) (part, whole []byte) {
	whole = append(append([]byte(nil), b...), 0xe1, 0xe2, 0xe3, 0xe4)
	return whole[:len(b)], whole
}

// spoil: everything that a caller may write into what it was handed, the spare room too.
func spoil(b []byte) {
	b = b[:cap(b)]
	for i := range b {
		b[i] = 0x5a
	}
}

func wantBytes(t *testing.T, what string, got []byte, want ...byte) {
	t.Helper()
	if !bytes.Equal(got, want) {
		t.Errorf("%s: %x, want %x", what, got, want)
	}
}

// P1.2
func TestJoin(t *testing.T) {
	wantBytes(t, "no parts", wire.Join())
	wantBytes(t, "empty parts", wire.Join(nil, nil))
	wantBytes(t, "an empty part that isn't nil", wire.Join([]byte{}))
	wantBytes(t, "one part", wire.Join([]byte{7, 8}), 7, 8)
	wantBytes(t, "an empty part between two", wire.Join([]byte{1, 2}, nil, []byte{3}), 1, 2, 3)
	wantBytes(t, "empty parts at both ends", wire.Join(nil, []byte{3, 0}, []byte{2}, []byte{1}, nil), 3, 0, 2, 1)
	var parts [][]byte
	var want []byte
	for i := range 1000 {
		part := bytes.Repeat([]byte{byte(i)}, i%7)
		parts = append(parts, part)
		want = append(want, part...)
	}
	wantBytes(t, "a thousand parts", wire.Join(parts...), want...)
}

// P1.1
func TestJoinTakesAndGivesNewMemory(t *testing.T) {
	a, wholeA := spare(1, 2)
	b, wholeB := spare(3)
	parts := [][]byte{a, b}
	one := wire.Join(parts...)
	two := wire.Join(parts...)
	alone := wire.Join(a)
	wantBytes(t, "the first part and its spare room", wholeA, 1, 2, 0xe1, 0xe2, 0xe3, 0xe4)
	wantBytes(t, "the second part and its spare room", wholeB, 3, 0xe1, 0xe2, 0xe3, 0xe4)
	spoil(one)
	wantBytes(t, "the other answer", two, 1, 2, 3)
	spoil(alone)
	spoil(two)
	wantBytes(t, "the first part, behind a caller's writing", wholeA, 1, 2, 0xe1, 0xe2, 0xe3, 0xe4)
	wantBytes(t, "the second part, behind a caller's writing", wholeB, 3, 0xe1, 0xe2, 0xe3, 0xe4)
	if len(parts) != 2 || &parts[0][0] != &a[0] || &parts[1][0] != &b[0] {
		t.Error("the list of parts has changed")
	}
	again := wire.Join(a)
	spoil(a)
	wantBytes(t, "an answer, behind a change of the part", again, 1, 2)
}

// P1.1: of an empty part with spare room nothing may be handed out either.
func TestNoBytesShareNoMemory(t *testing.T) {
	part, whole := spare()
	_ = append(wire.Join(part), 9)
	_ = append(wire.Join(part, part), 9)
	r := wire.NewReader(part)
	_ = append(r.Fixed(0), 9)
	wantBytes(t, "the spare room", whole, 0xe1, 0xe2, 0xe3, 0xe4)
}

// P1.3
func TestSame(t *testing.T) {
	for _, c := range []struct {
		a, b []byte
		want bool
	}{
		{nil, nil, true},
		{[]byte{}, nil, true},
		{nil, []byte{0}, false},
		{[]byte{0}, nil, false},
		{[]byte{1}, []byte{1, 0}, false},
		{[]byte{1, 0}, []byte{1}, false},
		{[]byte{1}, []byte{1}, true},
		{[]byte{1, 2, 3}, []byte{1, 2, 3}, true},
		{[]byte{1, 2}, []byte{2, 1}, false},
		{[]byte{3, 3}, []byte{5, 5}, false},
		{[]byte{0, 0}, []byte{1, 255}, false},
		{[]byte{0, 0}, []byte{128, 128}, false},
	} {
		if got := wire.Same(c.a, c.b); got != c.want {
			t.Errorf("Same(%x, %x): %v", c.a, c.b, got)
		}
	}
	for place := range 5 {
		for bit := range 8 {
			a := []byte{0, 255, 17, 128, 1}
			b := bytes.Clone(a)
			b[place] ^= 1 << bit
			if wire.Same(a, b) {
				t.Errorf("Same(%x, %x): bit %d of byte %d isn't looked at", a, b, bit, place)
			}
		}
	}
}

// P1.3
func TestBlank(t *testing.T) {
	for n := range 5 {
		if !wire.Blank(make([]byte, n)) {
			t.Errorf("Blank of %d zeros: false", n)
		}
		for place := range n {
			for bit := range 8 {
				b := make([]byte, n)
				b[place] = 1 << bit
				if wire.Blank(b) {
					t.Errorf("Blank(%x): true", b)
				}
			}
		}
	}
	if !wire.Blank(nil) {
		t.Error("Blank(nil): false")
	}
	if wire.Blank([]byte{0x81, 0x7f}) || wire.Blank([]byte{0x55, 0x55}) || wire.Blank([]byte{0xff, 1}) {
		t.Error("Blank of bytes that cancel each other out: true")
	}
	if part, _ := spare(0, 0); !wire.Blank(part) {
		t.Error("Blank looks at the spare room")
	}
}

// P1.1: asking changes nothing.
func TestAskingChangesNothing(t *testing.T) {
	a, wholeA := spare(1, 2)
	b, wholeB := spare(1, 2)
	wire.Same(a, b)
	wire.Blank(a)
	wire.Hex(a)
	wantBytes(t, "the first", wholeA, 1, 2, 0xe1, 0xe2, 0xe3, 0xe4)
	wantBytes(t, "the second", wholeB, 1, 2, 0xe1, 0xe2, 0xe3, 0xe4)
}

// P1.4, P1.1
func TestWipe(t *testing.T) {
	b := []byte{1, 2, 3, 4, 5}
	wire.Wipe(b[1:3])
	wantBytes(t, "two bytes in the middle", b, 1, 0, 0, 4, 5)
	wire.Wipe(b[5:])
	wire.Wipe(b[:0])
	wire.Wipe(nil)
	wantBytes(t, "no bytes", b, 1, 0, 0, 4, 5)
	wire.Wipe(b)
	wantBytes(t, "all bytes", b, 0, 0, 0, 0, 0)
}

// P1.5
func TestHex(t *testing.T) {
	for _, c := range []struct {
		b    []byte
		want string
	}{
		{nil, ""},
		{[]byte{}, ""},
		{[]byte{0x00, 0xff, 0xa0}, "00ffa0"},
		{[]byte{0x01, 0x23, 0x45, 0x67, 0x89, 0xab, 0xcd, 0xef}, "0123456789abcdef"},
	} {
		if got := wire.Hex(c.b); got != c.want {
			t.Errorf("Hex(%x): %q, want %q", c.b, got, c.want)
		}
	}
}

// P1.5
func TestUnhex(t *testing.T) {
	b, e := wire.Unhex("0123456789abcdef")
	if wantBytes(t, "all digits", b, 0x01, 0x23, 0x45, 0x67, 0x89, 0xab, 0xcd, 0xef); e != api.OK {
		t.Errorf("all digits: %d", e)
	}
	if b, e := wire.Unhex(""); e != api.OK || len(b) != 0 {
		t.Errorf("no digits: %x, %d", b, e)
	}
	for _, s := range []string{
		"0", "000", "0G", "FF", "aF", "Fa", " 0", "0 ", "0x00", "00\n", "00 0", "-1", "+1", "1_",
		"00zz", "zz00", "0/", "0:", "0`", "0g", "/0", ":0", "`0", "g0", "00\x00\x00", "\xff\xff", "é", "\uff10", "\u0661",
	} {
		if b, e := wire.Unhex(s); e != api.ErrHex || len(b) != 0 {
			t.Errorf("Unhex(%q): %x, %d", s, b, e)
		}
	}
}

// P1.1: two answers share nothing.
func TestUnhexGivesNewMemory(t *testing.T) {
	one, _ := wire.Unhex("0102")
	spoil(one)
	two, _ := wire.Unhex("0102")
	wantBytes(t, "the second answer", two, 1, 2)
}

// P1.14, P1.5: of all texts of two bytes, those that have an answer.
func TestHexIsOneForm(t *testing.T) {
	const known = "0123456789abcdef"
	for i := range 256 * 256 {
		b := []byte{byte(i >> 8), byte(i)}
		back, e := wire.Unhex(wire.Hex(b))
		if e != api.OK || !bytes.Equal(back, b) {
			t.Fatalf("Unhex(Hex(%x)): %x, %d", b, back, e)
		}
		s := string(b)
		of, e := wire.Unhex(s)
		good := strings.Contains(known, s[:1]) && strings.Contains(known, s[1:])
		if good != (e == api.OK) || !good && e != api.ErrHex {
			t.Fatalf("Unhex(%q): %x, %d", s, of, e)
		}
		if good && wire.Hex(of) != s {
			t.Fatalf("Hex(Unhex(%q)): %q", s, wire.Hex(of))
		}
	}
}

// P1.1: long things end, too.
func TestLongBytes(t *testing.T) {
	long := bytes.Repeat([]byte{0xab}, 1<<20)
	if b := wire.Join(long, long); len(b) != 2<<20 {
		t.Errorf("Join of two long parts has %d bytes", len(b))
	}
	s := wire.Hex(long)
	if s != strings.Repeat("ab", 1<<20) {
		t.Error("Hex of a long part")
	}
	if b, e := wire.Unhex(s); e != api.OK || !wire.Same(b, long) {
		t.Errorf("Unhex of a long text: %d bytes, %d", len(b), e)
	}
	if _, e := wire.Unhex(s + "a"); e != api.ErrHex {
		t.Errorf("Unhex of a long text of odd length: %d", e)
	}
	if _, e := wire.Unhex(s + "aA"); e != api.ErrHex {
		t.Errorf("Unhex of a long text with a capital at its end: %d", e)
	}
}

// extremes: numbers at the ends of what an int holds.
var extremes = []int{math.MinInt, math.MinInt + 1, math.MinInt32, -2, -1, math.MaxInt32, math.MaxInt - 1, math.MaxInt}
