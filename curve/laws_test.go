package curve_test

import (
	"testing"

	"lethe/api"
	"lethe/curve"
)

// P7.7: two who know one another's public keys agree.
func TestTheyAgree(t *testing.T) {
	all := scalars(20, 12)
	for _, a := range all {
		for _, b := range all {
			of, back := curve.Times(a, curve.Public(b)), curve.Times(b, curve.Public(a))
			if of != back {
				t.Fatalf("%x and %x come to %x and %x", a, b, of, back)
			}
			wantShared(t, a, curve.Public(b), of)
			wantShared(t, b, curve.Public(a), of)
		}
	}
	one, e := curve.NewPair(all[3][:])
	other, f := curve.NewPair(all[9][:])
	secret, g := curve.Shared(one.Priv, other.Pub)
	if e != api.OK || f != api.OK || g != api.OK {
		t.Fatalf("the errors %d, %d, %d", e, f, g)
	}
	wantShared(t, other.Priv, one.Pub, secret)
}

// P7.7: for every u, the edges, the low points and those that are no point's of the curve itself among them.
func TestTheyAgreeOverAnyU(t *testing.T) {
	us := drawn(21, 60)
	for _, n := range append(namedEdges(), lowPoints()...) {
		us = append(us, keyOf(n))
	}
	as, bs := drawn(22, len(us)), drawn(23, len(us))
	for i, u := range us {
		a, b := as[i], bs[i]
		if of, back := curve.Times(a, curve.Times(b, u)), curve.Times(b, curve.Times(a, u)); of != back {
			t.Fatalf("%x and %x over %x come to %x and %x", a, b, u, of, back)
		}
	}
}

// P7.8: the clamped key does what the key does, and so does each key that is clamped to the same.
func TestClampedOrNot(t *testing.T) {
	us := drawn(25, 30)
	for i, k := range drawn(24, 30) {
		want := curve.Times(k, us[i])
		wantTimes(t, curve.Clamp(k), us[i], want)
		for _, bit := range []int{0, 1, 2, 254, 255} {
			wantTimes(t, withBitTurned(k, bit), us[i], want)
		}
		if curve.Public(curve.Clamp(k)) != curve.Public(k) {
			t.Fatalf("Public of %x, clamped, is another", k)
		}
	}
}

// P7.8: all keys that have one u are one: those of 0 to 18 in all four forms, others in both.
func TestFormsOfOneU(t *testing.T) {
	us := drawn(26, 20)
	for n := range 25 {
		us = append(us, api.Key{byte(n)})
	}
	for _, n := range append(namedEdges(), lowPoints()...) {
		us = append(us, keyOf(n))
	}
	for _, k := range scalars(27, 1) {
		for _, u := range us {
			want := curve.Times(k, u)
			for _, form := range formsOf(uOf(u)) {
				wantTimes(t, k, form, want)
				wantShared(t, k, form, want)
			}
		}
	}
}

// P7.8: what is answered is in the field's one form: below p, and so the highest bit 0.
func TestAnswersAreBelowP(t *testing.T) {
	us := drawn(29, 200)
	for _, n := range append(namedEdges(), lowPoints()...) {
		us = append(us, keyOf(n))
	}
	ks := drawn(28, len(us))
	for i, u := range us {
		for _, got := range []api.Key{curve.Times(ks[i], u), curve.Public(ks[i])} {
			if got[31]&0x80 != 0 || numberOf(got).Cmp(p()) >= 0 {
				t.Fatalf("of %x and %x: %x", ks[i], u, got)
			}
		}
	}
}

// P7.9, P7.5: worked example 6, as it stands there.
func TestExampleOfLowPoints(t *testing.T) {
	last, above := filled(0xff), filled(0xff)
	last[0], last[31] = 0xec, 0x7f
	above[0], above[31] = 0xed, 0x7f
	for _, pub := range []api.Key{
		{}, {1}, last, above,
		unkey(t, "e0eb7a7c3b41b8ae1656e3faf19fc46ada098deb9c32b1fd866205165f49b800"),
		unkey(t, "5f9c95bca3508c24b1d0b1559c83ef5b04445cc4581c8e86d8224eddd09f1157"),
	} {
		for _, priv := range scalars(30, 4) {
			if got, e := curve.Shared(priv, pub); got != (api.Key{}) || e != api.ErrPoint {
				t.Errorf("Shared(%x, %x) = %x, %d", priv, pub, got, e)
			}
		}
	}
}

// P7.9: each of the five, in every form that it has, whatever the private key is.
func TestLowPointsAreRefused(t *testing.T) {
	for _, low := range lowPoints() {
		for _, form := range formsOf(low) {
			for _, k := range scalars(31, 10) {
				wantTimes(t, k, form, api.Key{})
				wantShared(t, k, form, api.Key{})
			}
		}
	}
}

// P7.9: those beside them are taken, in every form: a few numbers on, or one bit apart.
func TestKeysBesideLowPointsAreTaken(t *testing.T) {
	ks := scalars(32, 2)
	try := func(key api.Key) {
		if isLow(key) {
			return
		}
		for _, form := range formsOf(uOf(key)) {
			if got, e := curve.Shared(ks[int(form[0])%len(ks)], form); e != api.OK || got == (api.Key{}) {
				t.Fatalf("Shared with %x = %x, %d", form, got, e)
			}
		}
	}
	for _, low := range lowPoints() {
		for more := int64(-20); more <= 20; more++ {
			try(keyOf(mod(plus(low, more))))
		}
		for bit := range 255 {
			try(withBitTurned(keyOf(low), bit))
		}
		// the answer is 0 for low points alone: a multiple of another is no low one either
		try(curve.Times(ks[3], keyOf(mod(plus(low, 2)))))
	}
}

// P7.9: no public key is a low point.
func TestPublicKeysAreNotLow(t *testing.T) {
	ks := scalars(33, 200)
	for bit := range 256 {
		ks = append(ks, withBitTurned(filled(0), bit), withBitTurned(filled(0xff), bit))
	}
	for _, k := range ks {
		pub := curve.Public(k)
		if isLow(pub) {
			t.Fatalf("Public(%x) = %x", k, pub)
		}
		if _, e := curve.Shared(counted(0, 1), pub); e != api.OK {
			t.Fatalf("Shared with Public(%x): %d", k, e)
		}
	}
}
