package audit_test

import (
	"fmt"
	"strings"
	"testing"

	"lethe/api"
	"lethe/audit"
)

// kindsOf: what each byte of a stretch of an image is, as Regions tells it, by letters; the last two are L for LogPart and X for Stray, and Blank is a point.
func kindsOf(t *testing.T, image []byte, lo, hi int) string {
	t.Helper()
	list, e := audit.Regions(image)
	isCode(t, "Regions", e, 0)
	var letters strings.Builder
	for _, r := range list {
		letters.WriteString(times(" .FPSLX"[r.What:r.What+1], r.Hi-r.Lo))
	}
	return letters.String()[lo:hi]
}

// valueAt: where the value of the one record of a disk of 9 sectors begins.
func valueAt(r api.Record) int { return 3584 + 16 + 2 + len(r.Key) + 2 }

// isValue: the letters of the one value of an image, told by the test's own table.
func isValue(t *testing.T, what string, r api.Record, want string) {
	t.Helper()
	image := imageOf(9, recs(r))
	isCode(t, what, isAudited(t, what, image), 0)
	got := kindsOf(t, image, valueAt(r), valueAt(r)+len(r.Value))
	if got != want {
		t.Errorf("P27.3: %s: %s, want %s", what, got, want)
	}
	ahead := kindsOf(t, image, 3584, valueAt(r))
	if want := times("F", 18) + times("P", len(r.Key)) + "FF"; ahead != want {
		t.Errorf("P27.3: %s: ahead of the value: %s, want %s", what, ahead, want)
	}
}

// P27.3: values of each table, of many lengths, full of zeros too: what belongs to a record is never Blank.
func TestValues(t *testing.T) {
	sizes := []int{0, 1, 2, 3, 4, 5, 13, 14, 15, 16, 30, 31, 32, 33, 34, 63, 64, 65, 66, 96, 127, 128, 129, 221, 222, 223, 255, 256, 257, 288, 320, 330, 512, 576, 899, 900}
	for table := range 16 {
		for _, size := range sizes {
			want := times("P", size)
			switch {
			case table == 1 || table == 7:
				want = times("F", size)
			case table == 5 && size == 32:
				want = times("S", 32)
			case (table == 2 || table == 3) && size == 64:
				want = times("S", 32) + times("P", 32)
			}
			for _, c := range []byte{0, 1, 0x80, 0xff} {
				if table == 4 && c == 1 {
					continue // a state may begin so: below
				}
				what := fmt.Sprintf("table %d, %d bytes %02x", table, size, c)
				isValue(t, what, rec(table, "k", string(full(c, size))), want)
			}
			isValue(t, fmt.Sprintf("table %d, any %d bytes", table, size), rec(table, "key", "\x02"[:min(1, size)]+string(sample(max(0, size-1), int64(size)))), want)
		}
	}
}

// P27.3: keys of all lengths, full of zeros too, are public, in each table.
func TestKeys(t *testing.T) {
	for table := range 16 {
		for size := 1; size <= 64; size++ {
			isValue(t, fmt.Sprintf("table %d, a key of %d zeros", table, size), rec(table, string(zeros(size)), ""), "")
		}
		isValue(t, "a key as long as a secret", rec(table, string(full(0x11, 32)), ""), "")
	}
}

// stateBytes: of a state with these numbers, every key and name in it full of a byte of its own; hello: whether it has one.
func stateBytes(own, turns, serial, sent, prev, got uint32, hello bool) string {
	b := joined([]byte{1}, full(0xa1, 16), full(0xa2, 64), full(0xa3, 32), full(0xa4, 32), full(0xa5, 32), full(0xa6, 32), four(own), four(turns), four(serial))
	if own > 0 {
		b = joined(b, full(0xa7, 32), four(sent), four(prev))
	}
	if turns > 0 {
		b = joined(b, full(0xa8, 32), four(got))
	}
	if hello {
		return string(joined(b, []byte{1}, full(0xa9, 32), four(77)))
	}
	return string(joined(b, []byte{0}))
}

// P27.3, P27.5: states of each kind, and bytes that are nearly one.
func TestStates(t *testing.T) {
	core := "F" + times("P", 80) + times("S", 64) + times("P", 64) + times("F", 12)
	send, recv := times("S", 32)+times("F", 8), times("S", 32)+times("F", 4)
	hello := "F" + times("P", 32) + times("F", 4)
	for _, c := range []struct {
		what, value, want string
		secrets           string // the first byte of each
	}{
		{"ahead of the first packet", stateBytes(0, 0, 0, 0, 0, 0, false), core + "F", "\xa3\xa4"},
		{"the first own turn, with a hello", stateBytes(1, 0, 2, 2, 0, 0, true), core + send + hello, "\xa3\xa4\xa7"},
		{"the first own turn, without", stateBytes(1, 0, 0, 0, 0, 0, false), core + send + "F", "\xa3\xa4\xa7"},
		{"a turn of the peer alone", stateBytes(0, 1, 0, 0, 0, 5, false), core + recv + "F", "\xa3\xa4\xa8"},
		{"one turn each", stateBytes(1, 1, 3, 3, 0, 1, false), core + send + recv + "F", "\xa3\xa4\xa7\xa8"},
		{"own turns ahead", stateBytes(2, 1, 3, 1, 2, 1, false), core + send + recv + "F", "\xa3\xa4\xa7\xa8"},
		{"the peer's turns ahead", stateBytes(256, 257, 1<<31, 0, 0, 1<<32-1, false), core + send + recv + "F", "\xa3\xa4\xa7\xa8"},
		{"numbers at their end", stateBytes(1<<32-1, 1<<32-1, 1<<32-1, 1<<31, 1<<31-1, 1<<32-1, false), core + send + recv + "F", "\xa3\xa4\xa7\xa8"},
	} {
		r := rec(4, "\x03bob", c.value)
		isValue(t, c.what, r, c.want)
		keys, e := audit.Secrets(imageOf(9, recs(r)))
		var got strings.Builder
		for _, k := range keys {
			got.WriteString(string(k[:1]))
			if k != api.Key(full(k[0], 32)) {
				t.Errorf("P27.5: %s: a secret %x", c.what, k)
			}
		}
		if e != 0 || got.String() != c.secrets {
			t.Errorf("P27.5: %s: %x, error %d, want %x", c.what, got.String(), e, c.secrets)
		}
		n := len(c.value)
		for _, near := range []string{c.value[:n-1], c.value[1:], c.value + "\x00", c.value[:n/2], "\x02" + c.value[1:], "\x00" + c.value[1:]} {
			isValue(t, c.what+", nearly", rec(4, "\x03bob", near), times("P", len(near)))
		}
		for _, table := range []int{0, 5, 6, 15} {
			isValue(t, c.what+", elsewhere", rec(table, "\x03bob", c.value), times("P", n))
		}
	}
}

// P27.3: what state.Decode does not take, by its numbers or its hello, is public as a whole.
func TestNoStates(t *testing.T) {
	first := stateBytes(1, 0, 0, 0, 0, 0, true)
	for what, value := range map[string]string{
		"two own turns ahead":               stateBytes(2, 0, 0, 0, 0, 0, false),
		"two of the peer's ahead":           stateBytes(0, 2, 0, 0, 0, 0, false),
		"a serial ahead of all turns":       stateBytes(0, 0, 1, 0, 0, 0, false),
		"Prev in the first turn":            stateBytes(1, 1, 1, 0, 1, 0, false),
		"Serial above Sent":                 stateBytes(1, 1, 4, 3, 0, 0, false),
		"Serial below Sent":                 stateBytes(2, 1, 2, 3, 0, 0, false),
		"Prev above what was sent":          stateBytes(2, 1, 3, 1, 3, 0, false),
		"a hello behind the peer's turn":    stateBytes(1, 1, 0, 0, 0, 0, true),
		"a hello ahead of all turns":        stateBytes(0, 0, 0, 0, 0, 0, true),
		"a hello without an identity":       first[:17] + times("\x00", 32) + first[49:],
		"a byte 02 ahead of the hello":      first[:261] + "\x02" + first[262:],
		"a hello that is cut":               first[:262],
		"bytes behind where no hello is":    first[:261] + "\x00" + first[262:],
		"far numbers whose low bytes agree": stateBytes(1<<24, 1, 0, 0, 0, 0, false),
	} {
		isValue(t, what, rec(4, "\x03bob", value), times("P", len(value)))
	}
	noHello := first[:17] + times("\x00", 32) + first[49:262] + times("\x00", 36)
	isValue(t, "a hello that is all zero", rec(4, "k", noHello), times("P", len(noHello)))
}

// P27.3: keys and numbers of a state that are zero are what they are all the same.
func TestZerosInAState(t *testing.T) {
	core := "F" + times("P", 80) + times("S", 64) + times("P", 64) + times("F", 12)
	isValue(t, "all zero", rec(4, "k", "\x01"+times("\x00", 221)), core+"F")
	both := "\x01" + times("\x00", 208) + "\x00\x00\x00\x01\x00\x00\x00\x01" + times("\x00", 4+40+36+1)
	isValue(t, "one turn each", rec(4, "k", both), core+times("S", 32)+times("F", 8)+times("S", 32)+times("F", 5))
}

// P27.3: regions of one kind that meet are one: from a head to a record, from a value to the next record, from a page that is full to the next.
func TestNeighbours(t *testing.T) {
	a := imageOf(9, recs(rec(1, "a", "xyz"), rec(1, "b", ""), rec(2, "c", string(full(1, 64))), rec(5, "d", string(full(2, 32))), rec(6, "e", "p"), rec(7, "f", "1234")))
	isRegions(t, "records that meet", a, "Blank:2560 Frame:2584 Blank:3584 Frame:3602 Public:3603 Frame:3610 Public:3611 Frame:3615"+
		" Public:3616 Frame:3618 Secret:3650 Public:3682 Frame:3684 Public:3685 Frame:3687 Secret:3719 Frame:3721 Public:3722 Frame:3724 Public:3725 Frame:3727 Public:3728 Frame:3734 Blank:4608")
	frames := imageOf(13, recs(sized(1, "a", 504), sized(1, "b", 504)), recs(rec(7, "c", "")))
	isRegions(t, "a full page of frames", frames, "Blank:3584 Frame:3608 Blank:4608 Frame:4626 Public:4627 Frame:5130 Public:5131 Frame:5650 Public:5651 Frame:5653 Blank:6656")
}

// P27.3: a page that is full to its last byte with what is public or secret, and one whose last byte is free.
func TestPageEnds(t *testing.T) {
	for _, last := range []api.Record{sized(6, "z", 504), rec(5, "z"+times("y", 31), string(full(3, 32)))} {
		for free := range 3 {
			n := 1008 - len(bytesOf(last)) - free
			ahead := []api.Record{sized(0, "a", min(n, 800))}
			if n > 800 {
				ahead = append(ahead, sized(0, "b", n-800))
			}
			image := imageOf(13, append(ahead, last), recs(rec(15, "zz", "next")))
			what := fmt.Sprintf("%d bytes are free behind table %d", free, last.Table)
			isCode(t, what, isAudited(t, what, image), 0)
		}
	}
}
