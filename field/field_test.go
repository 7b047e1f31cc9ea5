package field_test

import (
	"fmt"
	"math"
	"math/big"
	"testing"

	"lethe/api"
	"lethe/field"
)

// bytesOf: 32 of them: the first, 30 alike, the last.
func bytesOf(first, middle, last byte) (key api.Key) {
	for i := range key {
		key[i] = middle
	}
	key[0], key[31] = first, last
	return key
}

// P6.2 to P6.8: the chapter's examples, as they stand there.
func TestExamples(t *testing.T) {
	last := field.Read(bytesOf(0xec, 0xff, 0x7f))
	zero, one, two := field.Elem{}, field.Small(1), field.Small(2)
	for _, c := range []struct {
		what string
		got  field.Elem
		want api.Key
	}{
		{"Read(p)", field.Read(bytesOf(0xed, 0xff, 0x7f)), api.Key{}},
		{"Read(ff .. ff)", field.Read(bytesOf(0xff, 0xff, 0xff)), api.Key{18}},
		{"(p - 1) + 1", last.Add(one), api.Key{}},
		{"0 - 1", zero.Sub(one), bytesOf(0xec, 0xff, 0x7f)},
		{"2^254 times 2", field.Read(bytesOf(0, 0, 0x40)).Mul(two), api.Key{19}},
		{"(p - 1) times (p - 1)", last.Mul(last), api.Key{1}},
		{"Inv of 2", two.Inv(), bytesOf(0xf7, 0xff, 0x3f)},
		{"Inv of 0", zero.Inv(), api.Key{}},
		{"2 to the 255-th", two.Pow(api.Key{255}), api.Key{19}},
		{"0 to the 0-th", zero.Pow(api.Key{}), api.Key{1}},
	} {
		if got := c.got.Bytes(); got != c.want {
			t.Errorf("%s = %x, want %x", c.what, got, c.want)
		}
	}
	for _, c := range []struct {
		of, want api.Key
		ok       bool
	}{
		{api.Key{4}, api.Key{2}, true},
		{api.Key{1}, bytesOf(0xec, 0xff, 0x7f), true},
		{api.Key{2}, api.Key{}, false},
		{api.Key{}, api.Key{}, true},
	} {
		if got, ok := field.Read(c.of).Root(); got.Bytes() != c.want || ok != c.ok {
			t.Errorf("Root of %x = %x, %v", c.of, got.Bytes(), ok)
		}
	}
	if !field.Fits(bytesOf(0xec, 0xff, 0x7f)) || field.Fits(bytesOf(0xed, 0xff, 0x7f)) || field.Fits(bytesOf(0, 0, 0x80)) {
		t.Error("Fits of p - 1, of p or of 2^255")
	}
}

// P6.2, P6.3: at every edge and every bit: the highest bit is not looked at, of the others the number modulo p is told; Fits looks at all bits; Read undoes Bytes, and Bytes undoes Read just of what fits.
func TestReadFitsBytes(t *testing.T) {
	all := append(namedEdges(), seams()...)
	all = append(all, draws(1, 200)...)
	for less := range int64(40) {
		all = append(all, plus(power2(255), -less), plus(power2(256), -1-less))
	}
	for _, n := range all {
		what, key := "Read of "+n.String(), keyOf(n)
		a := field.Read(key)
		is(t, what, a, new(big.Int).Mod(n, power2(255)))
		b := a.Bytes()
		if b[31]&0x80 != 0 {
			t.Fatalf("%s: the highest bit is told: %x", what, b)
		}
		if !field.Read(b).Equal(a) || field.Read(b).Bytes() != b {
			t.Fatalf("%s: told and read again it is another", what)
		}
		below := n.Cmp(p()) < 0
		if got := field.Fits(key); got != below {
			t.Fatalf("Fits of %s = %v", n, got)
		}
		if (b == key) != below {
			t.Fatalf("%s: %x, told as %x", what, key, b)
		}
	}
}

// P6.1: of two elements that were read unlike in the highest bit alone, nothing tells them apart.
func TestHighestBitIsNotLookedAt(t *testing.T) {
	for _, n := range draws(2, 50) {
		key := keyOf(n)
		other := key
		other[31] ^= 0x80
		if a, b := field.Read(key), field.Read(other); !a.Equal(b) || a.Bytes() != b.Bytes() {
			t.Fatalf("%x and %x are two numbers", key, other)
		}
	}
}

// P6.4: Small, of both ends and around each byte's; Elem{} is 0.
func TestSmall(t *testing.T) {
	is(t, "Elem{}", field.Elem{}, big.NewInt(0))
	for _, n := range []uint32{0, 1, 2, 18, 19, 255, 256, 65535, 65536, 1<<24 - 1, 1 << 24, 1<<31 - 1, 1 << 31, 1<<32 - 1} {
		is(t, fmt.Sprintf("Small(%d)", n), field.Small(n), big.NewInt(int64(n)))
	}
	is(t, "Small(2^32 - 1) squared", field.Small(math.MaxUint32).Square(), new(big.Int).Mul(big.NewInt(math.MaxUint32), big.NewInt(math.MaxUint32)))
}

// P6.4: sums, differences, products and squares of all pairs of edges and of drawn numbers; those that were read from above p too.
func TestTwoNumbers(t *testing.T) {
	all := append(namedEdges(), some(3)...)
	for k := range uint(15) {
		all = append(all, power2(17*k), plus(power2(17*k+1), -1))
	}
	for _, n := range all {
		a, x := read(n), new(big.Int).Mod(n, power2(255))
		is(t, fmt.Sprintf("%s squared", x), a.Square(), new(big.Int).Mul(x, x))
		for _, m := range all {
			b, y := read(m), new(big.Int).Mod(m, power2(255))
			is(t, fmt.Sprintf("%s + %s", x, y), a.Add(b), new(big.Int).Add(x, y))
			is(t, fmt.Sprintf("%s - %s", x, y), a.Sub(b), new(big.Int).Sub(x, y))
			is(t, fmt.Sprintf("%s times %s", x, y), a.Mul(b), new(big.Int).Mul(x, y))
		}
	}
}

// P6.4: every bit times every bit.
func TestBitsTimesBits(t *testing.T) {
	for i := range uint(255) {
		for k := range uint(255) {
			is(t, fmt.Sprintf("2^%d times 2^%d", i, k), read(power2(i)).Mul(read(power2(k))), power2(i+k))
		}
	}
}

// P6.8: of two ways to the same number, and of numbers that are unlike in one bit.
func TestEqual(t *testing.T) {
	for _, n := range some(4) {
		a := read(n)
		ways := []field.Elem{
			read(n), a.Add(field.Elem{}), a.Sub(field.Elem{}), a.Mul(field.Small(1)), a.Add(field.Read(bytesOf(0xed, 0xff, 0x7f))),
			a.Add(field.Small(7)).Sub(field.Small(7)), field.Elem{}.Sub(field.Elem{}.Sub(a)), a.Add(a).Mul(field.Small(2).Inv()), a.Pow(api.Key{1}),
			a.Add(read(plus(p(), -1))).Add(field.Small(1)),
		}
		if n.Cmp(big.NewInt(19)) < 0 {
			ways = append(ways, read(new(big.Int).Add(p(), n)), read(new(big.Int).Add(power2(255), n)))
		}
		for i, b := range ways {
			if !a.Equal(b) || !b.Equal(a) {
				t.Fatalf("%s is not equal to itself, way %d", n, i)
			}
		}
		for bit := range uint(255) {
			other := new(big.Int).Xor(n, power2(bit))
			if modP(other).Cmp(modP(n)) == 0 {
				continue
			}
			if b := read(other); a.Equal(b) || b.Equal(a) {
				t.Fatalf("%s is equal to %s", n, other)
			}
		}
	}
	if read(power2(0)).Equal(field.Elem{}) || (field.Elem{}).Equal(read(plus(p(), -1))) {
		t.Error("0 is equal to another")
	}
}

// P6.8: the lowest bit alone counts, of negative numbers too; elements that are kept in an unusual way, and a pair of one number, as well.
func TestSwap(t *testing.T) {
	wide := read(plus(power2(255), -1)).Add(read(plus(power2(255), -1)))
	pairs := [][2]field.Elem{
		{field.Small(5), field.Small(7)},
		{field.Elem{}, read(plus(p(), -1))},
		{wide, wide.Sub(field.Small(40))},
		{field.Small(3), field.Small(3)},
	}
	for _, bit := range []int{0, 1, 2, 3, 4, 5, 255, 256, 1 << 32, 1<<32 + 1, -1, -2, -3, -4, math.MaxInt, math.MaxInt - 1, math.MinInt, math.MinInt + 1} {
		for i, pair := range pairs {
			first, second := pair[0], pair[1]
			if bit%2 != 0 {
				first, second = second, first
			}
			a, b := field.Swap(bit, pair[0], pair[1])
			if a.Bytes() != first.Bytes() || b.Bytes() != second.Bytes() {
				t.Errorf("Swap(%d) of pair %d: %x, %x", bit, i, a.Bytes(), b.Bytes())
			}
		}
	}
	for _, n := range some(5) {
		for _, m := range some(6) {
			a, b := field.Swap(1, read(n), read(m))
			is(t, "the first of a changed pair", a, m)
			is(t, "the second of a changed pair", b, n)
			a, b = field.Swap(2, read(n), read(m))
			is(t, "the first of a pair", a, n)
			is(t, "the second of a pair", b, m)
		}
	}
}

// P6.1: elements are values: no call changes what it is handed, and a copy goes its own way.
func TestArgumentsStay(t *testing.T) {
	for _, n := range some(7) {
		for _, m := range some(8) {
			a, b, key := read(n), read(m), keyOf(m)
			twin := a
			a.Add(b)
			a.Sub(b)
			a.Mul(b)
			a.Square()
			a.Pow(key)
			a.Inv()
			a.Root()
			a.Equal(b)
			field.Swap(1, a, b)
			field.Read(key)
			field.Fits(key)
			is(t, "the first argument behind all calls", a, n)
			is(t, "the second argument behind all calls", b, m)
			if key != keyOf(m) {
				t.Fatalf("the key is now %x", key)
			}
			a = a.Add(field.Small(1))
			is(t, "a copy of what has gone on", twin, n)
		}
	}
}
