package aes_test

import (
	"testing"

	"lethe/aes"
)

// P4.2: the chapter's examples.
func TestExamplesOfBytes(t *testing.T) {
	for _, x := range [][3]byte{{0x57, 0x83, 0xc1}, {0x57, 0x13, 0xfe}, {0x53, 0xca, 0x01}} {
		if got := aes.Mul(x[0], x[1]); got != x[2] {
			t.Errorf("Mul(%02x, %02x) = %02x, want %02x", x[0], x[1], got, x[2])
		}
	}
	for _, x := range [][2]byte{{0x00, 0x63}, {0x01, 0x7c}, {0x53, 0xed}} {
		if got := aes.Box(x[0]); got != x[1] {
			t.Errorf("Box(%02x) = %02x, want %02x", x[0], got, x[1])
		}
		if got := aes.Unbox(x[1]); got != x[0] {
			t.Errorf("Unbox(%02x) = %02x, want %02x", x[1], got, x[0])
		}
	}
}

// P4.2: Mul, of all pairs of bytes, is the polynomials' product behind a long division.
func TestMulIsTheProduct(t *testing.T) {
	for a := range 256 {
		for b := range 256 {
			got, want := aes.Mul(byte(a), byte(b)), modelMul(byte(a), byte(b))
			if got != want {
				t.Fatalf("Mul(%02x, %02x) = %02x, want %02x", a, b, got, want)
			}
		}
	}
}

// P4.2: Box, of all bytes, is what the chapter makes, bit by bit, of the inverse; Unbox is the one byte of which Box makes this one.
func TestBoxesOfAllBytes(t *testing.T) {
	for a := range 256 {
		s := modelBox(byte(a))
		if got := aes.Box(byte(a)); got != s {
			t.Errorf("Box(%02x) = %02x, want %02x", a, got, s)
		}
		if got := aes.Unbox(s); got != byte(a) {
			t.Errorf("Unbox(%02x) = %02x, want %02x", s, got, a)
		}
	}
}

// P4.8: Box and Unbox undo one another, so that each is one to one.
func TestBoxesThereAndBack(t *testing.T) {
	for a := range 256 {
		if got := aes.Unbox(aes.Box(byte(a))); got != byte(a) {
			t.Errorf("Unbox(Box(%02x)) = %02x", a, got)
		}
		if got := aes.Box(aes.Unbox(byte(a))); got != byte(a) {
			t.Errorf("Box(Unbox(%02x)) = %02x", a, got)
		}
	}
}

// P4.10: commutative, 01 as its one, just one inverse of each byte but 00, which has none.
func TestBytesAreAField(t *testing.T) {
	for a := range 256 {
		if aes.Mul(byte(a), 1) != byte(a) || aes.Mul(1, byte(a)) != byte(a) {
			t.Errorf("01 is not the one of %02x", a)
		}
		inverses := 0
		for b := range 256 {
			product := aes.Mul(byte(a), byte(b))
			if product != aes.Mul(byte(b), byte(a)) {
				t.Fatalf("Mul(%02x, %02x) is not Mul(%02x, %02x)", a, b, b, a)
			}
			if product == 1 {
				inverses++
			}
		}
		if want := min(a, 1); inverses != want {
			t.Errorf("%02x has %d inverses, want %d", a, inverses, want)
		}
	}
}

// P4.10: associative and distributive over exclusive or, for all triples of bytes.
func TestMulOfThree(t *testing.T) {
	var products [256][256]byte
	for a := range 256 {
		for b := range 256 {
			products[a][b] = aes.Mul(byte(a), byte(b))
		}
	}
	for a := range 256 {
		for b := range 256 {
			for c := range 256 {
				if products[products[a][b]][c] != products[a][products[b][c]] {
					t.Fatalf("not associative at %02x, %02x, %02x", a, b, c)
				}
				if products[a][b^c] != products[a][b]^products[a][c] {
					t.Fatalf("not distributive at %02x, %02x, %02x", a, b, c)
				}
			}
		}
	}
}
