package curve_test

import (
	"math/big"

	"lethe/api"
)

// Times in two other ways, with numbers of any size: the chapter's ladder, as its words stand there, and points with both coordinates, added one to the other.

// ladderTimes: the chapter's ladder.
func ladderTimes(scalar, public api.Key) api.Key {
	k, u := clampedNumber(scalar), uOf(public)
	x2, z2, x3, z3 := big.NewInt(1), big.NewInt(0), u, big.NewInt(1)
	for bit := 254; bit >= 0; bit-- {
		b := k.Bit(bit)
		if b == 1 {
			x2, z2, x3, z3 = x3, z3, x2, z2
		}
		a, bm, c, d := add(x2, z2), sub(x2, z2), add(x3, z3), sub(x3, z3)
		da, cb := mul(d, a), mul(c, bm)
		x3, z3 = mul(add(da, cb), add(da, cb)), mul(u, mul(sub(da, cb), sub(da, cb)))
		aa, bb := mul(a, a), mul(bm, bm)
		f := sub(aa, bb)
		x2, z2 = mul(aa, bb), mul(f, add(aa, mul(big.NewInt(121665), f)))
		if b == 1 {
			x2, z2, x3, z3 = x3, z3, x2, z2
		}
	}
	return keyOf(mul(x2, new(big.Int).Exp(z2, plus(p(), -2), p())))
}

// point: with both coordinates; none: the one that has no coordinates.
type point struct {
	x, y *big.Int
	none bool
}

// pointTimes: every u is that of the point (u, 1) of the curve w y^2 = x^3 + 486662 x^2 + x with w = u^3 + 486662 u^2 + u, but for 0 (then w is 0, and the answer 0).
func pointTimes(scalar, public api.Key) api.Key {
	k, u := clampedNumber(scalar), uOf(public)
	w := mul(u, add(mul(u, add(u, big.NewInt(486662))), big.NewInt(1)))
	if w.Sign() == 0 {
		return api.Key{}
	}
	at, multiple := point{x: u, y: big.NewInt(1)}, point{none: true}
	for bit := range k.BitLen() {
		if k.Bit(bit) == 1 {
			multiple = together(w, multiple, at)
		}
		at = together(w, at, at)
	}
	if multiple.none {
		return api.Key{}
	}
	return keyOf(multiple.x)
}

// together: the sum of two points, by the line through them, or by the one that touches the curve there.
func together(w *big.Int, a, b point) point {
	if a.none {
		return b
	}
	if b.none {
		return a
	}
	rise, run := sub(b.y, a.y), sub(b.x, a.x)
	if run.Sign() == 0 {
		if add(a.y, b.y).Sign() == 0 {
			return point{none: true}
		}
		rise = add(mul(a.x, add(mul(big.NewInt(3), a.x), big.NewInt(2*486662))), big.NewInt(1))
		run = mul(mul(big.NewInt(2), w), a.y)
	}
	slope := mul(rise, new(big.Int).ModInverse(run, p()))
	x := sub(sub(mul(w, mul(slope, slope)), big.NewInt(486662)), add(a.x, b.x))
	return point{x: x, y: sub(mul(slope, sub(a.x, x)), a.y)}
}

func add(a, b *big.Int) *big.Int { return mod(new(big.Int).Add(a, b)) }

func sub(a, b *big.Int) *big.Int { return mod(new(big.Int).Sub(a, b)) }

func mul(a, b *big.Int) *big.Int { return mod(new(big.Int).Mul(a, b)) }

func mod(n *big.Int) *big.Int { return n.Mod(n, p()) }
