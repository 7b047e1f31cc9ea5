package header_test

import (
	"bytes"
	"math"
	"math/rand"
	"testing"

	"lethe/api"
	"lethe/header"
)

func isEncoded(t *testing.T, what string, h api.Header, want []byte) {
	t.Helper()
	if b := header.Encode(h); !bytes.Equal(b, want) {
		t.Errorf("P14.2: %s: Encode: %x, want %x", what, b, want)
	}
}

// P14.2: each field where it stands, the highest byte first; zeros; all bits.
func TestEncode(t *testing.T) {
	isEncoded(t, "no two fields alike", aHeader(), joined(steps(0x10, 16), []byte{0xa1, 0xa2, 0xa3, 0xa4}, steps(0x30, 32), []byte{0xb1, 0xb2, 0xb3, 0xb4, 0xc1, 0xc2, 0xc3, 0xc4}))
	isEncoded(t, "zeros", api.Header{}, zeros(60))
	var full api.Header
	for i := range full.Sid {
		full.Sid[i] = 0xff
	}
	for i := range full.Key {
		full.Key[i] = 0xff
	}
	full.Turn, full.Prev, full.N = math.MaxUint32, math.MaxUint32, math.MaxUint32
	isEncoded(t, "all bits", full, bytes.Repeat([]byte{0xff}, 60))
}

// P14.2: each bit of a header is one of its bytes' bits.
func TestEncodeBitByBit(t *testing.T) {
	for bit := range 8 * 60 {
		at := bit / 8
		mask := byte(0x80) >> (bit % 8)
		var h api.Header
		number := uint32(mask)
		switch {
		case at < 16:
			h.Sid[at] = mask
		case at < 20:
			h.Turn = number << (8 * (19 - at))
		case at < 52:
			h.Key[at-20] = mask
		case at < 56:
			h.Prev = number << (8 * (55 - at))
		default:
			h.N = number << (8 * (59 - at))
		}
		want := zeros(60)
		want[at] = mask
		isEncoded(t, "one bit", h, want)
	}
}

// P14.2: drawn headers, held against the chapter's words.
func TestEncodeDrawn(t *testing.T) {
	r := rand.New(rand.NewSource(1))
	for range 2000 {
		h := drawnPacket(r).Header
		isEncoded(t, "drawn", h, wordsHeader(h))
	}
}
