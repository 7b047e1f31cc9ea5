package curve_test

import (
	"bytes"
	"crypto/ecdh"
	"encoding/hex"
	"math/big"
	"math/rand"
	"testing"

	"lethe/api"
	"lethe/curve"
)

// p: the modulus, as a number of any size: what the tests reckon in.
func p() *big.Int { return plus(power2(255), -19) }

func power2(n uint) *big.Int { return new(big.Int).Lsh(big.NewInt(1), n) }

func plus(n *big.Int, more int64) *big.Int { return new(big.Int).Add(n, big.NewInt(more)) }

func sum(a, b *big.Int) *big.Int { return new(big.Int).Add(a, b) }

func decimal(s string) *big.Int {
	n, ok := new(big.Int).SetString(s, 10)
	if !ok {
		panic("not a number: " + s)
	}
	return n
}

// keyOf: a number's 32 bytes, the lowest first.
func keyOf(n *big.Int) (key api.Key) {
	n.FillBytes(key[:])
	return turnedRound(key)
}

func numberOf(key api.Key) *big.Int {
	key = turnedRound(key)
	return new(big.Int).SetBytes(key[:])
}

func turnedRound(key api.Key) (out api.Key) {
	for i, b := range key {
		out[len(key)-1-i] = b
	}
	return out
}

// unkey: of 64 hexadecimal digits.
func unkey(t *testing.T, s string) api.Key {
	t.Helper()
	b, err := hex.DecodeString(s)
	if err != nil || len(b) != 32 {
		t.Fatalf("no key: %s", s)
	}
	return api.Key(b)
}

func filled(b byte) api.Key { return api.Key(bytes.Repeat([]byte{b}, 32)) }

// counted: 32 bytes, each so much more than the one ahead of it.
func counted(first, more int) (key api.Key) {
	for i := range key {
		key[i] = byte(first + more*i)
	}
	return key
}

// drawn: keys that hang on the seed alone.
func drawn(seed int64, count int) []api.Key {
	random := rand.New(rand.NewSource(seed))
	out := make([]api.Key, count)
	for i := range out {
		random.Read(out[i][:])
	}
	return out
}

// withBitTurned: of its 256 bits one, bit 0 the lowest.
func withBitTurned(key api.Key, bit int) api.Key {
	key[bit/8] ^= 1 << (bit % 8)
	return key
}

// clampedNumber: the number of a private key, made of numbers: what is left of it between the bits that are fixed.
func clampedNumber(key api.Key) *big.Int {
	n := new(big.Int).Mod(numberOf(key), power2(254))
	n.Rsh(n, 3).Lsh(n, 3)
	return n.Add(n, power2(254))
}

// uOf: a public key's.
func uOf(key api.Key) *big.Int {
	n := new(big.Int).Mod(numberOf(key), power2(255))
	return n.Mod(n, p())
}

// formsOf: all keys that have this u.
func formsOf(u *big.Int) []api.Key {
	out := []api.Key{keyOf(u), keyOf(sum(u, power2(255)))}
	if u.Cmp(big.NewInt(19)) < 0 {
		out = append(out, keyOf(sum(u, p())), keyOf(sum(sum(u, p()), power2(255))))
	}
	return out
}

// namedEdges: the numbers of public keys at which reading them changes.
func namedEdges() []*big.Int {
	return []*big.Int{
		big.NewInt(0), big.NewInt(1), big.NewInt(2), big.NewInt(9), big.NewInt(18), big.NewInt(19),
		plus(p(), -2), plus(p(), -1), p(), plus(p(), 1), plus(p(), 9), plus(p(), 18), plus(power2(255), -1),
		power2(255), plus(power2(255), 9), sum(power2(255), p()), plus(power2(256), -1),
	}
}

// lowPoints: the chapter's five.
func lowPoints() []*big.Int {
	return []*big.Int{
		big.NewInt(0), big.NewInt(1), plus(p(), -1),
		decimal("325606250916557431795983626356110631294008115727848805560023387167927233504"),
		decimal("39382357235489614581723060781553021112529911719440698176882885853963445705823"),
	}
}

func isLow(key api.Key) bool {
	for _, low := range lowPoints() {
		if uOf(key).Cmp(low) == 0 {
			return true
		}
	}
	return false
}

// scalars: private keys at which all is tried: the ends, those of the chapter, some drawn.
func scalars(seed int64, count int) []api.Key {
	out := []api.Key{{}, filled(0xff), {9}, counted(0, 1), counted(255, -1), keyOf(p()), {31: 0x40}, {0: 0x07, 31: 0x80}}
	return append(out, drawn(seed, count)...)
}

// libraryTimes: what the library's own X25519 answers; it gives up where the answer is 0.
func libraryTimes(t *testing.T, scalar, u api.Key) api.Key {
	t.Helper()
	priv, err := ecdh.X25519().NewPrivateKey(scalar[:])
	if err != nil {
		t.Fatal(err)
	}
	pub, err := ecdh.X25519().NewPublicKey(u[:])
	if err != nil {
		t.Fatal(err)
	}
	out, err := priv.ECDH(pub)
	if err != nil {
		return api.Key{}
	}
	return api.Key(out)
}

func wantTimes(t *testing.T, scalar, u, want api.Key) {
	t.Helper()
	if got := curve.Times(scalar, u); got != want {
		t.Fatalf("Times(%x, %x) = %x, want %x", scalar, u, got, want)
	}
}

// wantShared: the key, or ErrPoint if the key is all zeros.
func wantShared(t *testing.T, priv, pub, want api.Key) {
	t.Helper()
	number := api.OK
	if want == (api.Key{}) {
		number = api.ErrPoint
	}
	if got, e := curve.Shared(priv, pub); got != want || e != number {
		t.Fatalf("Shared(%x, %x) = %x, %d, want %x, %d", priv, pub, got, e, want, number)
	}
}
