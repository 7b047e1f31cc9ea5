package parcel_test

import (
	"bytes"
	"slices"
	"strings"
	"testing"

	"lethe/api"
	"lethe/parcel"
)

// example: a tray whose answers are held against the chapter's rows, not against the words.
type example struct {
	t *testing.T
	x *parcel.Tray
}

func (x example) add(row, peer string, part []byte, id uint32, whole bool, e api.Errno) {
	x.t.Helper()
	gotID, gotWhole, got := x.x.Add(peer, part)
	if gotID != id || gotWhole != whole || got != e {
		x.t.Errorf("P26.1: %s: %d, %v, error %d, want %d, %v, %d", row, gotID, gotWhole, got, id, whole, e)
	}
}

func (x example) take(row string, id uint32, want string, e api.Errno) {
	x.t.Helper()
	if text, got := x.x.Take("bob", id); string(text) != want || got != e {
		x.t.Errorf("P26.1: %s: %d bytes, error %d, want %d bytes, %d", row, len(text), got, len(want), e)
	}
}

func (x example) len(row string, want int) {
	x.t.Helper()
	if got := x.x.Len(); got != want {
		x.t.Errorf("P26.1: %s: Len %d, want %d", row, got, want)
	}
}

// other: a copy with another byte at a place.
func other(part []byte, at int, to byte) []byte {
	b := slices.Clone(part)
	b[at] = to
	return b
}

// P26.1: the rows of New and Split.
func TestChapterNewAndSplit(t *testing.T) {
	for _, most := range []int{0, 65} {
		if x, e := parcel.New(most); x != nil || e != api.ErrLimits {
			t.Errorf("P26.1: New(%d): error %d, tray %v", most, e, x)
		}
	}
	none, e := parcel.Split(7, nil)
	if e != api.OK || len(none) != 1 || string(none[0]) != "\x05\x00\x00\x00\x07\x01\x00\xe3\xb0\xc4\x42\x98\xfc\x1c\x14" {
		t.Errorf("P26.1: Split(7, no bytes): %x, error %d", none, e)
	}
	for size, lengths := range map[int][]int{497: {512}, 498: {512, 16}} {
		parts, e := parcel.Split(7, bytes.Repeat([]byte("x"), size))
		var got []int
		for _, p := range parts {
			got = append(got, len(p))
		}
		if e != api.OK || !slices.Equal(got, lengths) {
			t.Errorf("P26.1: Split(7, %d bytes): parts of %v bytes, error %d, want %v", size, got, e, lengths)
		}
	}
	if parts, e := parcel.Split(7, make([]byte, 31809)); len(parts) != 0 || e != api.ErrLong {
		t.Errorf("P26.1: Split(7, 31809 bytes): %d parts, error %d", len(parts), e)
	}
}

// P26.1: the rows of one tray, in their order.
func TestChapterTray(t *testing.T) {
	text := strings.Repeat("letters", 72)[:498]
	two, _ := parcel.Split(7, []byte(text))
	none, _ := parcel.Split(7, nil)
	tray, e := parcel.New(1)
	if e != api.OK || len(two) != 2 || len(none) != 1 {
		t.Fatalf("P26.1: New(1): error %d; parts %d, %d", e, len(two), len(none))
	}
	x := example{t, tray}
	x.add("no name", "", none[0], 0, false, api.ErrName)
	x.add("14 bytes", "bob", none[0][:14], 0, false, api.ErrPart)
	x.add("first byte 06", "bob", other(none[0], 0, 6), 0, false, api.ErrPart)
	x.add("index 1 of 1", "bob", other(none[0], 6, 1), 0, false, api.ErrPart)
	x.add("0 parts", "bob", other(none[0], 5, 0), 0, false, api.ErrPart)
	x.add("the second part", "bob", two[1], 7, false, api.OK)
	if list, e := tray.Missing("bob", 7); !slices.Equal(list, []int{0}) || e != api.OK {
		t.Errorf("P26.1: Missing: %v, error %d, want 0", list, e)
	}
	x.take("parts are missing", 7, "", api.ErrParcel)
	x.take("no parcel", 8, "", api.ErrUnknown)
	for _, part := range [][]byte{two[0], two[1], none[0]} {
		x.add("any part of another peer", "eve", part, 0, false, api.ErrFull)
	}
	x.add("the second part again", "bob", two[1], 0, false, api.ErrTwice)
	x.add("another byte of content", "bob", other(two[0], 15, 'L'), 0, false, api.ErrSum)
	x.add("the first part", "bob", two[0], 7, true, api.OK)
	x.len("whole", 1)
	x.take("whole", 7, text, api.OK)
	x.len("taken", 0)
}

// The chapter's section 'Errors', and the numbers of api that it names.
func TestChapterErrors(t *testing.T) {
	got := []api.Errno{api.ErrLimits, api.ErrLong, api.ErrSum, api.ErrFull, api.ErrTwice, api.ErrUnknown, api.ErrName, api.ErrPart, api.ErrParcel}
	want := []api.Errno{limits, tooLong, badSum, full, twice, unknown, noName, noPart, notWhole}
	if !slices.Equal(got, want) {
		t.Errorf("the errors are %d, want %d", got, want)
	}
	if api.MaxParcel != maxParcel || api.MaxText-15 != room || api.MaxName != maxName || maxParcel*room != longest {
		t.Errorf("MaxParcel %d, MaxText %d, MaxName %d", api.MaxParcel, api.MaxText, api.MaxName)
	}
}
