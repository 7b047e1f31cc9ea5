package curve

import (
	"lethe/api"
	"lethe/field"
)

const (
	highestBit = 254    // of a clamped number
	stretch    = 121665 // a quarter of 486660, which the curve's 486662 is but for 2
)

// ratio: a u, told as x divided by z, so that no step of the ladder need divide. With z 0 it is the point that has no u.
type ratio struct {
	x, z field.Elem
}

// ladder: the number of the clamped bytes times u.
// Between the steps near is the multiple of u by the bits that were gone through, next that by one more. The same steps are taken whatever the bits are, since they are a private key's.
func ladder(number api.Key, u field.Elem) ratio {
	near, next := ratio{x: field.Small(1)}, ratio{x: u, z: field.Small(1)}
	for place := highestBit; place >= 0; place-- {
		bit := int(number[place/8] >> (place % 8) & 1)
		near, next = exchanged(bit, near, next)
		near, next = step(near, next, u)
		near, next = exchanged(bit, near, next)
	}
	return near
}

// step: the first one doubled, and the sum of both, whose difference is u.
func step(near, next ratio, u field.Elem) (double, sum ratio) {
	a, b := near.x.Add(near.z), near.x.Sub(near.z)
	da, cb := next.x.Sub(next.z).Mul(a), next.x.Add(next.z).Mul(b)
	sum.x = da.Add(cb).Square()
	sum.z = da.Sub(cb).Square().Mul(u)
	aa, bb := a.Square(), b.Square()
	f := aa.Sub(bb)
	double.x = aa.Mul(bb)
	double.z = f.Mul(field.Small(stretch).Mul(f).Add(aa))
	return double, sum
}

// exchanged: the two pairs, changed over if the bit is 1.
func exchanged(bit int, one, other ratio) (ratio, ratio) {
	one.x, other.x = field.Swap(bit, one.x, other.x)
	one.z, other.z = field.Swap(bit, one.z, other.z)
	return one, other
}

// whole: the division done; 0, if z is 0, since Inv answers 0 then.
func (r ratio) whole() field.Elem { return r.x.Mul(r.z.Inv()) }
