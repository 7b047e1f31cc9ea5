package field

import "lethe/api"

// Pow: to the n-th, the lowest byte of n first.
func (a Elem) Pow(n api.Key) Elem {
	power := Small(1)
	for bit := 8*len(n) - 1; bit >= 0; bit-- {
		power = power.Square()
		if n[bit/8]>>(bit%8)&1 == 1 {
			power = power.Mul(a)
		}
	}
	return power
}

// Inv: the one that times a is 1; of 0: 0.
// It is a to the (2^255 - 21)-th, which times a is 1 by Fermat; 2^255 - 21 is 2^5 (2^250 - 1) + 11.
func (a Elem) Inv() Elem {
	second := a.Square()
	eighth := second.squared(2)
	return a.manyOnes().squared(5).Mul(eighth).Mul(second).Mul(a)
}

// Root: the even one of the two whose square is a; false: there is none.
// Where a has roots, a to the (2^252 - 2)-th is one of them, or is one behind a product with the root of -1: its square's square is a's.
func (a Elem) Root() (Elem, bool) {
	root := a.manyOnes().squared(2).Mul(a.Square())
	if !root.Square().Equal(a) {
		root = root.Mul(rootOfMinusOne())
	}
	if !root.Square().Equal(a) {
		return Elem{}, false
	}
	if root.odd() {
		root = Elem{}.Sub(root)
	}
	return root, true
}

// rootOfMinusOne: 2 to the ((p - 1) / 4)-th, that is 2^3 (2^250 - 1) + 3: 2 has no root, so that its ((p - 1) / 2)-th is -1.
func rootOfMinusOne() Elem {
	return Small(2).manyOnes().squared(3).Mul(Small(8))
}

// odd: is the number, from 0 to p - 1, odd?
func (a Elem) odd() bool { return a.Bytes()[0]&1 == 1 }

// manyOnes: a to the (2^250 - 1)-th: an exponent of 250 bits that are 1, with which those of Inv and Root begin.
func (a Elem) manyOnes() Elem {
	ones5 := a.squared(4).Mul(a.squared(3)).Mul(a.squared(2)).Mul(a.squared(1)).Mul(a)
	ones10 := ones5.squared(5).Mul(ones5)
	ones20 := ones10.squared(10).Mul(ones10)
	ones40 := ones20.squared(20).Mul(ones20)
	ones50 := ones40.squared(10).Mul(ones10)
	ones100 := ones50.squared(50).Mul(ones50)
	ones200 := ones100.squared(100).Mul(ones100)
	return ones200.squared(50).Mul(ones50)
}

// squared: so many times, one behind the other.
func (a Elem) squared(times int) Elem {
	for range times {
		a = a.Square()
	}
	return a
}
