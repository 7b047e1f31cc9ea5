package field_test

import (
	"math/big"
	"math/rand"
	"testing"

	"lethe/api"
	"lethe/field"
)

// p: the modulus, as a number of any size: what the tests reckon in.
func p() *big.Int { return plus(power2(255), -19) }

func power2(n uint) *big.Int { return new(big.Int).Lsh(big.NewInt(1), n) }

func plus(n *big.Int, more int64) *big.Int { return new(big.Int).Add(n, big.NewInt(more)) }

func modP(n *big.Int) *big.Int { return new(big.Int).Mod(n, p()) }

// keyOf: a number's 32 bytes, the lowest first.
func keyOf(n *big.Int) (key api.Key) {
	n.FillBytes(key[:])
	return turnedRound(key)
}

func numberOf(key api.Key) *big.Int {
	key = turnedRound(key)
	return new(big.Int).SetBytes(key[:])
}

func turnedRound(key api.Key) (out api.Key) {
	for i, b := range key {
		out[len(key)-1-i] = b
	}
	return out
}

// read: of a number below 2^256.
func read(n *big.Int) field.Elem { return field.Read(keyOf(n)) }

// namedEdges: the numbers at which reading, fitting and telling change.
func namedEdges() []*big.Int {
	return []*big.Int{
		big.NewInt(0), big.NewInt(1), plus(p(), -1), p(), plus(p(), 1), plus(p(), 18),
		plus(power2(255), -1), power2(255), new(big.Int).Add(power2(255), p()), plus(power2(256), -1),
	}
}

// seams: of all 256 bits, one alone, all below it, and all but it.
func seams() []*big.Int {
	var out []*big.Int
	for n := range uint(256) {
		out = append(out, power2(n), plus(power2(n), -1), new(big.Int).Sub(plus(power2(256), -1), power2(n)))
	}
	return out
}

// draws: numbers below 2^256, which hang on the seed alone.
func draws(seed int64, count int) []*big.Int {
	random := rand.New(rand.NewSource(seed))
	var out []*big.Int
	for range count {
		out = append(out, new(big.Int).Rand(random, power2(256)))
	}
	return out
}

// some: numbers below p at which laws are tried: the ends, small ones, some drawn.
func some(seed int64) []*big.Int {
	out := []*big.Int{
		big.NewInt(0), big.NewInt(1), big.NewInt(2), big.NewInt(18), big.NewInt(19), big.NewInt(121665),
		plus(p(), -1), plus(p(), -2), plus(p(), -19), power2(254), plus(power2(51), -1), power2(204),
	}
	for _, n := range draws(seed, 10) {
		out = append(out, modP(n))
	}
	return out
}

// is: the element is that number modulo p, told in its one form.
func is(t *testing.T, what string, got field.Elem, want *big.Int) {
	t.Helper()
	if b := got.Bytes(); b != keyOf(modP(want)) {
		t.Fatalf("%s: %s, want %s", what, numberOf(b), modP(want))
	}
}
