package field

import "math/bits"

// wide: a number of 128 bits.
type wide struct {
	high, low uint64
}

// plus: with a product added.
func (w wide) plus(x, y uint64) wide {
	high, low := bits.Mul64(x, y)
	low, carry := bits.Add64(w.low, low, 0)
	high, _ = bits.Add64(w.high, high, carry)
	return wide{high, low}
}

// above: what lies above a limb's 51 bits.
func (w wide) above() uint64 {
	return w.high<<(64-limbBits) | w.low>>limbBits
}

// Mul: see Add. The products are written out, not looped over, since the curve's steps are made of little else.
// Each sum is below 2^109, and the last one, in which no product wraps, below 2^105: so what is handed on finds room in 64 bits, 19 times what wraps too.
func (a Elem) Mul(b Elem) Elem {
	x0, x1, x2, x3, x4 := a.limbs[0], a.limbs[1], a.limbs[2], a.limbs[3], a.limbs[4]
	y0, y1, y2, y3, y4 := b.limbs[0], b.limbs[1], b.limbs[2], b.limbs[3], b.limbs[4]
	z1, z2, z3, z4 := wrap*y1, wrap*y2, wrap*y3, wrap*y4
	var none wide
	s0 := none.plus(x0, y0).plus(x1, z4).plus(x2, z3).plus(x3, z2).plus(x4, z1)
	s1 := none.plus(x0, y1).plus(x1, y0).plus(x2, z4).plus(x3, z3).plus(x4, z2)
	s2 := none.plus(x0, y2).plus(x1, y1).plus(x2, y0).plus(x3, z4).plus(x4, z3)
	s3 := none.plus(x0, y3).plus(x1, y2).plus(x2, y1).plus(x3, y0).plus(x4, z4)
	s4 := none.plus(x0, y4).plus(x1, y3).plus(x2, y2).plus(x3, y1).plus(x4, y0)
	return carried([limbCount]uint64{
		s0.low&limbMask + wrap*s4.above(),
		s1.low&limbMask + s0.above(),
		s2.low&limbMask + s1.above(),
		s3.low&limbMask + s2.above(),
		s4.low&limbMask + s3.above(),
	})
}

// Square: see Add.
func (a Elem) Square() Elem { return a.Mul(a) }
