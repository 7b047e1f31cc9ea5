package parcel_test

import (
	"crypto/sha256"
	"fmt"
	"math"
	"slices"
	"strings"
	"sync"
	"testing"

	"lethe/parcel"
)

// someIDs: the ends, and such of which each byte is another one.
func someIDs() []uint32 {
	return []uint32{0, 1, 7, 255, 256, 1 << 16, 1 << 24, 0x01020304, 0x04030201, 1 << 31, math.MaxUint32 - 1, math.MaxUint32}
}

// isSplit: the parts are those of the chapter's words, byte by byte.
func isSplit(t *testing.T, id uint32, text string) {
	t.Helper()
	parts, e := parcel.Split(id, []byte(text))
	want, code := wordsSplit(id, text)
	if got := texts(parts); e != code || !slices.Equal(got, want) {
		t.Errorf("P26.1: Split(%d, %d bytes): %d parts, error %d, want %d, %d: %.40x", id, len(text), len(got), e, len(want), code, got)
	}
}

// edges: numbers of bytes at and beside each multiple of Room.
func edges() []int {
	sizes := []int{0, 1, 2}
	for n := 1; n <= maxParcel; n++ {
		sizes = append(sizes, n*room-1, n*room)
		if n < maxParcel {
			sizes = append(sizes, n*room+1)
		}
	}
	return sizes
}

// P26.1: every length at and beside a part's end, and every id there is an edge to.
func TestSplitByItsWords(t *testing.T) {
	for _, size := range edges() {
		isSplit(t, uint32(size), sample(size, int64(size)))
	}
	for size := range 2*room + 20 {
		isSplit(t, math.MaxUint32-uint32(size), sample(size, 1))
	}
	for _, id := range someIDs() {
		for _, size := range []int{0, 1, room - 1, room, room + 1, 3 * room, 3*room + 1, longest - 1, longest} {
			isSplit(t, id, sample(size, int64(size)))
			isSplit(t, id, strings.Repeat("\x00", size))
			isSplit(t, id, strings.Repeat("\xff", size))
		}
	}
}

// P26.1: as few parts as can be, but one of an empty text; the contents one behind the other are the text.
func TestSplitAsFew(t *testing.T) {
	for _, size := range edges() {
		text := sample(size, 2)
		parts := split(t, 7, text)
		if n := len(parts); n < 1 || n > maxParcel || n*room < size || n > 1 && (n-1)*room >= size {
			t.Errorf("P26.1: %d bytes: %d parts", size, n)
		}
		joined := ""
		for i, p := range parts {
			if len(p) > 512 || i < len(parts)-1 && len(p) != 512 {
				t.Errorf("P26.1: %d bytes: part %d has %d", size, i, len(p))
			}
			joined += p[15:]
		}
		if joined != text {
			t.Errorf("P26.1: %d bytes: the contents are not the text", size)
		}
	}
}

// P26.1: one byte more than the greatest number, and more, such numbers too whose low bits are those of a right one.
func TestSplitTooLong(t *testing.T) {
	for _, size := range []int{longest + 1, longest + 2, longest + room, 32767, 32768, 65535, 65536, 65537, 65536 + room, 65536 + longest, 1 << 20, 1<<24 + 1} {
		for _, id := range []uint32{0, 7, math.MaxUint32} {
			parts, e := parcel.Split(id, make([]byte, size))
			if len(parts) != 0 || e != tooLong {
				t.Errorf("P26.1: Split(%d, %d bytes): %d parts, error %d, want %d", id, size, len(parts), e, tooLong)
			}
		}
	}
}

// P26.1: parts that another program has made: how many, the first one's and the last one's head, and the digest of all of them.
func TestSplitWorkedOutElsewhere(t *testing.T) {
	for _, c := range []struct {
		id               uint32
		size, many       int
		first, last, all string
	}{
		{0x0, 0, 1, "05000000000100e3b0c44298fc1c14", "05000000000100e3b0c44298fc1c14", "2e47fc2512b7484d13be5fe1a958730c4d93c24376bca9cb5580f4f724318e13"},
		{0x7, 0, 1, "05000000070100e3b0c44298fc1c14", "05000000070100e3b0c44298fc1c14", "c19076c5b322099904bc142362dd9993c499bcc0cb28ca324b9112669dc43879"},
		{0xffffffff, 0, 1, "05ffffffff0100e3b0c44298fc1c14", "05ffffffff0100e3b0c44298fc1c14", "1129eead71cc88d2b5741e101cf11a11277dda65e12cd17d41c14502b3a48750"},
		{0x0, 1, 1, "050000000001006e340b9cffb37a98", "050000000001006e340b9cffb37a98", "d83e03f7b39f7099383f21ede1a2addb1898d9050bfd575621677b09723fcd7a"},
		{0x7, 496, 1, "050000000701005f28cf61321283cb", "050000000701005f28cf61321283cb", "d43d0a560b86e0b2ec977ca153372b3aad2e07026d9572f623a104cacd747c1e"},
		{0x7, 497, 1, "0500000007010007777602970ac977", "0500000007010007777602970ac977", "a61f1ec6a8323c45f398186d94d9485ac418840aabe7ccad5606add623a4b87c"},
		{0x7, 498, 2, "0500000007020042476721999668e7", "0500000007020142476721999668e7", "1bdc9f2f666663e0dbd3fd030c9b9a472cc04578dc482bdf9689c954b5426f06"},
		{0x1020304, 994, 2, "05010203040200167c02177edfa741", "05010203040201167c02177edfa741", "d51331d8131da39005423b64a1b1ee299afa2c09223dc792d5990bac9a5b7302"},
		{0x80000001, 995, 3, "058000000103002a4c527639745143", "058000000103022a4c527639745143", "168409cf3f2063027da80e5690162b6c87435dacb12bd00e9aa7f1426616d7b6"},
		{0xdeadbeef, 10000, 21, "05deadbeef1500526e0fe897104957", "05deadbeef1514526e0fe897104957", "064b4387dd8f455fe2471255e0ef9bb49db76e5a21a10c95f741a8b5bdeac2ea"},
		{0x0, 31808, 64, "05000000004000b6fdc4d23ee23841", "0500000000403fb6fdc4d23ee23841", "dafa0bf6519e8132d9c6a12cbbf669f733f5488940549925e3a21dc79f8a1896"},
		{0xffffffff, 31808, 64, "05ffffffff4000b6fdc4d23ee23841", "05ffffffff403fb6fdc4d23ee23841", "82ae01cf594040d65288778c110084a2ccac2ee566a8ee32af7bab2a14fbbefe"},
	} {
		text := make([]byte, c.size)
		for k := range text {
			text[k] = byte(k*k + k/7)
		}
		parts := split(t, c.id, string(text))
		all := fmt.Sprintf("%x", sha256.Sum256([]byte(strings.Join(parts, ""))))
		first, last := fmt.Sprintf("%x", parts[0][:15]), fmt.Sprintf("%x", parts[len(parts)-1][:15])
		if len(parts) != c.many || first != c.first || last != c.last || all != c.all {
			t.Errorf("P26.1: Split(%x, %d bytes): %d parts, %s to %s, %s", c.id, c.size, len(parts), first, last, all)
		}
	}
}

// Rule 5: the same parts, asked again, and asked by many at a time.
func TestSplitAgain(t *testing.T) {
	text := sample(5*room+3, 26)
	want := split(t, 7, text)
	var all sync.WaitGroup
	for range 8 {
		all.Go(func() {
			for range 20 {
				parts, e := parcel.Split(7, []byte(text))
				if e != 0 || !slices.Equal(texts(parts), want) {
					t.Errorf("Rule 5: other parts, error %d", e)
				}
			}
		})
	}
	all.Wait()
}
