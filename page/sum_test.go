package page_test

import (
	"fmt"
	"hash/crc32"
	"math/rand"
	"testing"

	"lethe/page"
)

func isSum(t *testing.T, what string, got, want uint32) {
	t.Helper()
	if got != want {
		t.Errorf("%s: %08x, want %08x", what, got, want)
	}
}

// P10.2: the chapter's examples.
func TestSumExamples(t *testing.T) {
	isSum(t, "123456789", page.Sum([]byte("123456789")), 0xe3069283)
	isSum(t, "in three parts", page.Sum([]byte("1234"), []byte(""), []byte("56789")), 0xe3069283)
}

// P10.2: no part, and parts without bytes.
func TestSumOfNothing(t *testing.T) {
	isSum(t, "no part", page.Sum(), 0)
	isSum(t, "nil", page.Sum(nil), 0)
	isSum(t, "an empty part", page.Sum([]byte{}), 0)
	isSum(t, "three of them", page.Sum(nil, []byte{}, nil), 0)
	isSum(t, "a list without parts", page.Sum([][]byte{}...), 0)
}

// P10.2: each byte alone, behind each other one, and zeros, which must count too.
func TestSumOfAllBytes(t *testing.T) {
	for a := range 256 {
		b := []byte{byte(a)}
		isSum(t, fmt.Sprintf("byte %02x", a), page.Sum(b), wordsSum(b))
		for c := range 256 {
			b := []byte{byte(a), byte(c)}
			isSum(t, fmt.Sprintf("bytes %x", b), page.Sum(b), wordsSum(b))
		}
	}
	for n := range 40 {
		isSum(t, fmt.Sprintf("%d zeros", n), page.Sum(zeros(n)), wordsSum(zeros(n)))
	}
}

// P10.2: held against the chapter's words and the library's CRC-32C, at every length up to that of a page and some beyond.
func TestSumOfAllLengths(t *testing.T) {
	r := rand.New(rand.NewSource(1))
	table := crc32.MakeTable(crc32.Castagnoli)
	for _, n := range append([]int{4096, 65535, 65536, 100000}, r.Perm(1100)...) {
		b := make([]byte, n)
		r.Read(b)
		got := page.Sum(b)
		isSum(t, fmt.Sprintf("%d bytes", n), got, wordsSum(b))
		isSum(t, fmt.Sprintf("%d bytes, the library's", n), got, crc32.Checksum(b, table))
	}
}

// P10.2: one whole and the same bytes in every cut: in two, in three, byte by byte, with empty parts between.
func TestSumInParts(t *testing.T) {
	b := drawn(rand.New(rand.NewSource(2)), 60)
	want := wordsSum(b)
	for i := range len(b) + 1 {
		isSum(t, fmt.Sprintf("cut at %d", i), page.Sum(b[:i], b[i:]), want)
		for k := i; k <= len(b); k++ {
			isSum(t, fmt.Sprintf("cut at %d and %d", i, k), page.Sum(b[:i], nil, b[i:k], []byte{}, b[k:]), want)
		}
	}
	var single [][]byte
	for i := range b {
		single = append(single, b[i:i+1], nil)
	}
	isSum(t, "byte by byte", page.Sum(single...), want)
	short := b[:10]
	for cuts := range 1 << 9 {
		var parts [][]byte
		from := 0
		for i := range 9 {
			if cuts>>i&1 == 1 {
				parts = append(parts, short[from:i+1])
				from = i + 1
			}
		}
		isSum(t, fmt.Sprintf("cuts %09b", cuts), page.Sum(append(parts, short[from:])...), wordsSum(short))
	}
}

// P10.2: the parts' order counts, and one part may come twice.
func TestSumOfOrderedParts(t *testing.T) {
	a, b := []byte("one"), []byte("two")
	isSum(t, "there", page.Sum(a, b), wordsSum([]byte("onetwo")))
	isSum(t, "and back", page.Sum(b, a), wordsSum([]byte("twoone")))
	isSum(t, "twice", page.Sum(a, a), wordsSum([]byte("oneone")))
}
