package field_test

import (
	"fmt"
	"math/big"
	"testing"

	"lethe/api"
	"lethe/field"
)

// exponents: those that the document leans on, the ends, and one bit each.
func exponents() []*big.Int {
	out := []*big.Int{
		big.NewInt(0), big.NewInt(1), big.NewInt(2), big.NewInt(3), big.NewInt(255), big.NewInt(256),
		plus(p(), -2), plus(p(), -1), p(), plus(power2(255), -1), power2(255), plus(power2(255), 1), plus(power2(256), -1),
	}
	for n := range uint(32) {
		out = append(out, power2(8*n), power2(8*n+7))
	}
	return append(out, draws(30, 5)...)
}

// modelInverse: the library's; of 0: 0.
func modelInverse(n *big.Int) *big.Int {
	if n.Sign() == 0 {
		return n
	}
	return new(big.Int).ModInverse(n, p())
}

// checkRoot: of a number below p, held against the library's root.
func checkRoot(t *testing.T, a field.Elem, n *big.Int) {
	t.Helper()
	want := new(big.Int).ModSqrt(n, p())
	got, ok := a.Root()
	if ok != (want != nil) {
		t.Fatalf("Root of %s: %v", n, ok)
	}
	if !ok {
		is(t, fmt.Sprintf("Root of %s, which has none", n), got, big.NewInt(0))
		return
	}
	if want.Bit(0) == 1 {
		want.Sub(p(), want)
	}
	is(t, fmt.Sprintf("Root of %s", n), got, want)
	is(t, fmt.Sprintf("Root of %s, squared", n), got.Square(), n)
}

// P6.5: all 256 bits of n count; to the 0-th it is 1, of 0 too.
func TestPow(t *testing.T) {
	for _, n := range some(9) {
		for _, e := range exponents() {
			want := new(big.Int).Exp(n, e, p())
			is(t, fmt.Sprintf("%s to the %s", n, e), read(n).Pow(keyOf(e)), want)
		}
		is(t, fmt.Sprintf("%s to the 0-th", n), read(n).Pow(api.Key{}), big.NewInt(1))
		is(t, fmt.Sprintf("%s to the 1st", n), read(n).Pow(api.Key{1}), n)
	}
	is(t, "p, which is 0, to the 0-th", read(p()).Pow(api.Key{}), big.NewInt(1))
	is(t, "0 to the 1st", field.Elem{}.Pow(api.Key{1}), big.NewInt(0))
	is(t, "0 to the (2^256 - 1)-th", field.Elem{}.Pow(keyOf(plus(power2(256), -1))), big.NewInt(0))
}

// P6.5: powers as products, counted up.
func TestSmallPowers(t *testing.T) {
	for _, n := range some(10) {
		a, product := read(n), big.NewInt(1)
		for e := range int64(70) {
			is(t, fmt.Sprintf("%s to the %d", n, e), a.Pow(keyOf(big.NewInt(e))), product)
			product = modP(new(big.Int).Mul(product, n))
		}
	}
}

// P6.6: the library's inverse; it is the power that Fermat tells; of 0 it is 0, however 0 came about.
func TestInv(t *testing.T) {
	all := some(11)
	for n := range int64(50) {
		all = append(all, big.NewInt(n), plus(p(), -1-n))
	}
	for _, n := range draws(31, 50) {
		all = append(all, modP(n))
	}
	for _, n := range all {
		a := read(n)
		is(t, fmt.Sprintf("Inv of %s", n), a.Inv(), modelInverse(n))
		is(t, fmt.Sprintf("Inv of Inv of %s", n), a.Inv().Inv(), n)
		if !a.Inv().Equal(a.Pow(keyOf(plus(p(), -2)))) {
			t.Fatalf("Inv of %s is not its (p - 2)-th", n)
		}
	}
	for _, zero := range []field.Elem{{}, read(p()), read(power2(255)), field.Small(3).Sub(field.Small(3)), read(plus(p(), -1)).Add(field.Small(1))} {
		is(t, "Inv of 0", zero.Inv(), big.NewInt(0))
	}
	is(t, "Inv of p - 1", read(plus(p(), -1)).Inv(), plus(p(), -1))
	is(t, "Inv of 1", field.Small(1).Inv(), big.NewInt(1))
}

// P6.7: small numbers, those of both kinds, the last ones, squares, squares' opposites, and drawn ones.
func TestRoot(t *testing.T) {
	all := some(12)
	for n := range int64(200) {
		all = append(all, big.NewInt(n), plus(p(), -1-n))
	}
	for _, n := range draws(32, 100) {
		square := modP(new(big.Int).Mul(n, n))
		all = append(all, modP(n), square, modP(new(big.Int).Neg(square)), modP(new(big.Int).Lsh(square, 1)))
	}
	for _, n := range all {
		checkRoot(t, read(n), n)
	}
	for n := range int64(19) {
		checkRoot(t, read(plus(p(), n)), big.NewInt(n))
	}
}

// P6.7: just half of the numbers but 0 have a root: a and 2a never both.
func TestHalfHaveRoots(t *testing.T) {
	for _, n := range draws(33, 100) {
		a := read(n)
		_, one := a.Root()
		_, two := a.Add(a).Root()
		if one == two {
			t.Fatalf("%s and twice it: roots %v and %v", n, one, two)
		}
	}
}

// P6.9: the laws, over the ends and drawn numbers.
func TestFieldLaws(t *testing.T) {
	zero, one := field.Elem{}, field.Small(1)
	same := func(law string, a, b field.Elem) {
		t.Helper()
		if !a.Equal(b) || a.Bytes() != b.Bytes() {
			t.Fatalf("%s: %x and %x", law, a.Bytes(), b.Bytes())
		}
	}
	for _, n := range some(13) {
		a := read(n)
		same("a + 0 is a", a.Add(zero), a)
		same("0 + a is a", zero.Add(a), a)
		same("a times 1 is a", a.Mul(one), a)
		same("1 times a is a", one.Mul(a), a)
		same("a times 0 is 0", a.Mul(zero), zero)
		same("a - a is 0", a.Sub(a), zero)
		same("a squared is a times a", a.Square(), a.Mul(a))
		if n.Sign() != 0 {
			same("a times Inv is 1", a.Mul(a.Inv()), one)
		}
		for _, m := range some(14) {
			b := read(m)
			same("a + b is b + a", a.Add(b), b.Add(a))
			same("a times b is b times a", a.Mul(b), b.Mul(a))
			same("a - b + b is a", a.Sub(b).Add(b), a)
			for _, k := range some(15) {
				c := read(k)
				same("sums of three", a.Add(b).Add(c), a.Add(b.Add(c)))
				same("products of three", a.Mul(b).Mul(c), a.Mul(b.Mul(c)))
				same("products of a sum", a.Mul(b.Add(c)), a.Mul(b).Add(a.Mul(c)))
			}
		}
	}
}

// P6.10: to the (p - 1)-th: 1 but for 0.
func TestFermat(t *testing.T) {
	last := keyOf(plus(p(), -1))
	for _, n := range append(some(16), draws(34, 50)...) {
		want := big.NewInt(1)
		if modP(n).Sign() == 0 {
			want = big.NewInt(0)
		}
		is(t, fmt.Sprintf("%s to the (p - 1)-th", n), read(n).Pow(last), want)
	}
	is(t, "p to the (p - 1)-th", read(p()).Pow(last), big.NewInt(0))
}
