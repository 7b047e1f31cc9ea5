package curve_test

import (
	"bytes"
	"math/big"
	"testing"

	"lethe/api"
	"lethe/curve"
)

// P7.3: worked examples 1, 2 and 5.
func TestExamplesOfTimes(t *testing.T) {
	for _, row := range [][3]string{
		{"a546e36bf0527c9d3b16154b82465edd62144c0ac1fc5a18506a2244ba449ac4", "e6db6867583030db3594c1a424b15f7c726624ec26b3353b10a903a6d0ab1c4c", "c3da55379de9c6908e94ea4df28d084f32eccf03491c71f754b4075577a28552"},
		{"4b66e9d4d1b4673c5ad22691957d6af5c11b6421e0ea01d42ca4169e7918ba0d", "e5210f12786811d3f4b7959d0538ae2c31dbe7106fc03c3efc4cd549c715a493", "95cbde9476e8907d7aade45cb4b873f88b595a68799fa152e6f8f7647aac7957"},
	} {
		wantTimes(t, unkey(t, row[0]), unkey(t, row[1]), unkey(t, row[2]))
	}
	want := unkey(t, "b7c00165f547d5da679dda0bda98e41ef283d0eb8959e8b7fbec591f1a0db64c")
	wantTimes(t, counted(0, 1), filled(0xff), want)
	wantTimes(t, counted(0, 1), api.Key{18}, want)
}

// P7.4, P7.5: worked examples 3 and 4.
func TestExamplesOfPublicAndShared(t *testing.T) {
	up, down := counted(0, 1), counted(255, -1)
	for _, c := range []struct {
		priv api.Key
		want string
	}{
		{up, "8f40c5adb68f25624ae5b214ea767a6ec94d829d3d7b5e1ad1ba6f3e2138285f"},
		{down, "3ebcb692149344dc54e58160cf90bed9eea1dd14e81c8e91de557af7d7afd915"},
		{filled(0), "2fe57da347cd62431528daac5fbb290730fff684afc4cfc2ed90995f58cb3b74"},
		{filled(0xff), "847c0d2c375234f365e660955187a3735a0f7613d1609d3a6a4d8c53aeaa5a22"},
	} {
		if got := curve.Public(c.priv); got != unkey(t, c.want) {
			t.Errorf("Public(%x) = %x, want %s", c.priv, got, c.want)
		}
	}
	both := unkey(t, "30217d6b363560f68fb70fa011e752866351584ea7e24649dac3168430ce1c3d")
	wantShared(t, up, curve.Public(down), both)
	wantShared(t, down, curve.Public(up), both)
}

// P7.3: worked example 7.
func TestThousandTimes(t *testing.T) {
	k, u := api.Key{9}, api.Key{9}
	for done := 1; done <= 1000; done++ {
		k, u = curve.Times(k, u), k
		if done == 1 && k != unkey(t, "422c8e7a6227d7bca1350b3e2bb7279f7897b87bb6854b783c60e80311ae3079") {
			t.Fatalf("behind the first time: %x", k)
		}
	}
	if k != unkey(t, "684cf59ba83309552800ef566f2f4d3c1c3887c49360e3875f2eb94d99532c51") {
		t.Fatalf("behind 1,000 times: %x", k)
	}
}

// P7.2: of 32 bytes 00 and ff, written out.
func TestClampOfTheEnds(t *testing.T) {
	if got := curve.Clamp(filled(0)); got != (api.Key{31: 0x40}) {
		t.Errorf("Clamp of 00 .. 00 = %x", got)
	}
	want := filled(0xff)
	want[0], want[31] = 0xf8, 0x7f
	if got := curve.Clamp(filled(0xff)); got != want {
		t.Errorf("Clamp of ff .. ff = %x", got)
	}
}

// P7.2: held against numbers, of drawn keys and of each bit alone, set and not; what is clamped already stays.
func TestClamp(t *testing.T) {
	all := append(scalars(1, 200), filled(0x55), filled(0xaa))
	for bit := range 256 {
		all = append(all, withBitTurned(filled(0), bit), withBitTurned(filled(0xff), bit))
	}
	for _, key := range all {
		given := key
		got := curve.Clamp(key)
		if got != keyOf(clampedNumber(key)) {
			t.Fatalf("Clamp(%x) = %x, want %x", key, got, keyOf(clampedNumber(key)))
		}
		if key != given {
			t.Fatalf("Clamp(%x) has changed the caller's key: %x", given, key)
		}
		if again := curve.Clamp(got); again != got {
			t.Fatalf("Clamp of %x, which is clamped, = %x", got, again)
		}
		n := numberOf(got)
		if n.Bit(0)|n.Bit(1)|n.Bit(2) != 0 || n.Cmp(power2(254)) < 0 || n.Cmp(plus(power2(255), -8)) > 0 {
			t.Fatalf("Clamp(%x): the number %s", key, n)
		}
	}
}

// P7.3, P7.8: at every edge of u, in the ladder's and the points' and the library's way; P7.5: so Shared.
func TestTimesAtEdges(t *testing.T) {
	for _, n := range namedEdges() {
		u := keyOf(n)
		for _, k := range scalars(2, 2) {
			want := ladderTimes(k, u)
			if other := pointTimes(k, u); other != want {
				t.Fatalf("the models tell %x and %x of %x and %x", want, other, k, u)
			}
			if other := libraryTimes(t, k, u); other != want {
				t.Fatalf("the library tells %x, the ladder %x of %x and %x", other, want, k, u)
			}
			wantTimes(t, k, u, want)
			wantShared(t, k, u, want)
		}
	}
}

// P7.3: over drawn keys, in the same three ways; P7.5: so Shared.
func TestTimesOfDrawnKeys(t *testing.T) {
	us := drawn(4, 40)
	for i, k := range drawn(3, 40) {
		want := ladderTimes(k, us[i])
		if other := pointTimes(k, us[i]); other != want {
			t.Fatalf("the models tell %x and %x of %x and %x", want, other, k, us[i])
		}
		wantTimes(t, k, us[i], want)
		wantShared(t, k, us[i], want)
	}
	us = drawn(6, 400)
	for i, k := range drawn(5, 400) {
		wantTimes(t, k, us[i], libraryTimes(t, k, us[i]))
	}
}

// P7.3: each bit of both keys, turned.
func TestTimesReadsEveryBit(t *testing.T) {
	k, u := drawn(7, 1)[0], drawn(8, 1)[0]
	for bit := range 256 {
		wantTimes(t, withBitTurned(k, bit), u, libraryTimes(t, withBitTurned(k, bit), u))
		wantTimes(t, k, withBitTurned(u, bit), libraryTimes(t, k, withBitTurned(u, bit)))
		wantTimes(t, withBitTurned(filled(0), bit), withBitTurned(filled(0), bit), libraryTimes(t, withBitTurned(filled(0), bit), withBitTurned(filled(0), bit)))
		wantTimes(t, withBitTurned(filled(0xff), bit), withBitTurned(filled(0xff), bit), libraryTimes(t, withBitTurned(filled(0xff), bit), withBitTurned(filled(0xff), bit)))
	}
}

// P7.4: Public is Times with the number 9, of drawn keys too.
func TestPublic(t *testing.T) {
	for _, k := range scalars(9, 40) {
		got := curve.Public(k)
		if want := ladderTimes(k, keyOf(big.NewInt(9))); got != want {
			t.Fatalf("Public(%x) = %x, want %x", k, got, want)
		}
		if got != curve.Times(k, api.Key{9}) {
			t.Fatalf("Public(%x) is not Times of 9", k)
		}
	}
}

// P7.6: draws of 32 bytes, with and without room behind them; the draw and the room stay, and the pair is no piece of them.
func TestNewPair(t *testing.T) {
	for _, draw := range scalars(10, 20) {
		want := api.Pair{Priv: keyOf(clampedNumber(draw)), Pub: ladderTimes(draw, api.Key{9})}
		array := append(append(bytes.Repeat([]byte{7}, 5), draw[:]...), bytes.Repeat([]byte{7}, 40)...)
		ahead := bytes.Clone(array)
		for _, slice := range [][]byte{bytes.Clone(draw[:]), array[5:37:37], array[5:37]} {
			got, e := curve.NewPair(slice)
			if got != want || e != api.OK {
				t.Fatalf("NewPair(%x) = %x, %x, %d, want %x, %x", draw, got.Priv, got.Pub, e, want.Priv, want.Pub)
			}
			if !bytes.Equal(array, ahead) || !bytes.Equal(slice, draw[:]) {
				t.Fatalf("NewPair(%x) has changed its draw, or bytes around it", draw)
			}
		}
		slice := bytes.Clone(draw[:])
		got, _ := curve.NewPair(slice)
		clear(slice)
		if got != want {
			t.Fatalf("NewPair(%x): the pair changes with the draw", draw)
		}
	}
}

// P7.6: draws of every other length, nil too, whatever room lies behind them.
func TestNewPairRefuses(t *testing.T) {
	array := bytes.Repeat([]byte{0x5a}, 300)
	ahead := bytes.Clone(array)
	draws := [][]byte{nil, {}, make([]byte, 1<<16), make([]byte, 1<<16+32)}
	for n := range 290 {
		if n != 32 {
			draws = append(draws, array[:n], array[:n:n])
		}
	}
	for _, draw := range draws {
		if got, e := curve.NewPair(draw); got != (api.Pair{}) || e != api.ErrDraw {
			t.Fatalf("NewPair of %d bytes = %x, %x, %d", len(draw), got.Priv, got.Pub, e)
		}
	}
	if !bytes.Equal(array, ahead) {
		t.Error("NewPair has changed a draw that it refused")
	}
}

// P7.1: what is answered hangs on the arguments alone: calls between, and ones that were refused, change nothing.
func TestNothingIsKept(t *testing.T) {
	k, u := counted(0, 1), curve.Public(counted(255, -1))
	want, pair := curve.Times(k, u), api.Pair{Priv: curve.Clamp(k), Pub: curve.Public(k)}
	for i, other := range scalars(11, 5) {
		curve.Times(other, keyOf(namedEdges()[i]))
		curve.Public(other)
		curve.Shared(other, api.Key{})
		curve.Shared(other, u)
		curve.NewPair(other[:31])
		curve.NewPair(other[:])
		wantTimes(t, k, u, want)
		wantShared(t, k, u, want)
		if got, e := curve.NewPair(k[:]); got != pair || e != api.OK {
			t.Fatalf("NewPair = %x, %x, %d", got.Priv, got.Pub, e)
		}
	}
	if k != counted(0, 1) {
		t.Errorf("the caller's key is %x", k)
	}
}

// P7.5, P7.6: the errors' numbers, as the calls tell them.
func TestErrorNumbers(t *testing.T) {
	if _, e := curve.Shared(counted(0, 1), api.Key{}); int(e) != 70 {
		t.Errorf("a low point: %d", e)
	}
	if _, e := curve.NewPair(nil); int(e) != 71 {
		t.Errorf("no draw: %d", e)
	}
}
