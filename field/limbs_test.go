package field

import (
	"math/big"
	"math/rand"
	"testing"
)

// limbBound: what Elem's comment says of every limb.
const limbBound = 1<<limbBits + 1<<18

// worth: the number that limbs stand for, told by none of the package's calls.
func worth(l [limbCount]uint64) *big.Int {
	sum := new(big.Int)
	for i := limbCount - 1; i >= 0; i-- {
		sum.Lsh(sum, limbBits)
		sum.Add(sum, new(big.Int).SetUint64(l[i]))
	}
	return sum
}

// widest: elements with limbs at both ends of what they may be, all combinations of them.
func widest() []Elem {
	ends := []uint64{0, limbMask, limbBound - 1}
	out := []Elem{{}}
	for i := range limbCount {
		var next []Elem
		for _, a := range out {
			for _, end := range ends {
				a.limbs[i] = end
				next = append(next, a)
			}
		}
		out = next
	}
	return out
}

func checkElem(t *testing.T, what string, got Elem, want *big.Int) {
	t.Helper()
	for _, limb := range got.limbs {
		if limb >= limbBound {
			t.Fatalf("%s: a limb of %d", what, limb)
		}
	}
	modulus := new(big.Int).Sub(new(big.Int).Lsh(big.NewInt(1), 255), big.NewInt(19))
	left := new(big.Int).Sub(worth(got.limbs), want)
	if left.Mod(left, modulus).Sign() != 0 {
		t.Fatalf("%s: limbs %x stand for another number", what, got.limbs)
	}
	told := got.Bytes()
	sum := new(big.Int)
	for i := len(told) - 1; i >= 0; i-- {
		sum.Lsh(sum, 8)
		sum.Add(sum, big.NewInt(int64(told[i])))
	}
	if sum.Cmp(new(big.Int).Mod(want, modulus)) != 0 {
		t.Fatalf("%s: limbs %x are told as %x", what, got.limbs, told)
	}
}

// P6.1: the bound that the package leans on holds behind every call, at the widest limbs too, and the number is right then.
func TestLimbsStayInTheirBound(t *testing.T) {
	random := rand.New(rand.NewSource(1))
	all := widest()
	for _, a := range all {
		x := worth(a.limbs)
		checkElem(t, "itself", a, x)
		checkElem(t, "Square", a.Square(), new(big.Int).Mul(x, x))
		others := []Elem{{}, a, all[len(all)-1], all[random.Intn(len(all))], all[random.Intn(len(all))]}
		for _, b := range others {
			y := worth(b.limbs)
			checkElem(t, "Add", a.Add(b), new(big.Int).Add(x, y))
			checkElem(t, "Sub", a.Sub(b), new(big.Int).Sub(x, y))
			checkElem(t, "Sub", b.Sub(a), new(big.Int).Sub(y, x))
			checkElem(t, "Mul", a.Mul(b), new(big.Int).Mul(x, y))
			one, two := Swap(1, a, b)
			checkElem(t, "Swap's first", one, y)
			checkElem(t, "Swap's second", two, x)
			if a.Equal(b) != (a.Bytes() == b.Bytes()) {
				t.Fatalf("Equal of %x and %x", a.limbs, b.limbs)
			}
		}
	}
}

// P6.1: limbs of any size at all are carried into the bound.
func TestCarriedLimbs(t *testing.T) {
	random := rand.New(rand.NewSource(2))
	for n := range 300 {
		var l [limbCount]uint64
		for i := range l {
			l[i] = random.Uint64()
			if n < 1<<limbCount && n>>i&1 == 1 {
				l[i] = 1<<64 - 1
			}
		}
		checkElem(t, "carried", carried(l), worth(l))
	}
}
