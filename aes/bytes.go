package aes

import "math/bits"

// box: S of each byte, made once, as the program starts: each byte of each block is looked up in it.
var box = makeBox()

// Mul: the product of two bytes as polynomials.
func Mul(a, b byte) byte {
	var product byte
	for ; b != 0; b >>= 1 {
		if b&1 == 1 {
			product ^= a
		}
		a = double(a)
	}
	return product
}

// double: 02*a. What is carried out of the byte, x^8, is x^4 + x^3 + x + 1.
func double(a byte) byte { return a<<1 ^ (a>>7)*0x1b }

// Box: the box's byte for a byte.
func Box(a byte) byte { return box[a] }

// Unbox: back. Box inverts and then spreads, so that unspread behind Box inverts; and what inverts is its own opposite.
func Unbox(a byte) byte { return unspread(Box(unspread(a))) }

func makeBox() (table [256]byte) {
	for a := range table {
		table[a] = spread(inverse(byte(a)))
	}
	return table
}

// inverse: a to the power of 254, as 2 + 4 + .. + 128, since each byte but 00 to the power of 255 is 01; of 00 it is 00.
func inverse(a byte) byte {
	power := byte(1)
	for range 7 {
		a = Mul(a, a)
		power = Mul(power, a)
	}
	return power
}

// spread: S behind the inverse. Bit i of a byte that is turned left by k is its bit i - k: the bits i, i+4, .., i+7 stand here.
func spread(b byte) byte {
	return b ^ bits.RotateLeft8(b, 4) ^ bits.RotateLeft8(b, 3) ^ bits.RotateLeft8(b, 2) ^ bits.RotateLeft8(b, 1) ^ 0x63
}

// unspread: spread's opposite.
func unspread(b byte) byte {
	return bits.RotateLeft8(b, 1) ^ bits.RotateLeft8(b, 3) ^ bits.RotateLeft8(b, 6) ^ 0x05
}
