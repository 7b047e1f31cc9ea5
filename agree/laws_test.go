package agree_test

import (
	"fmt"
	"math/rand"
	"testing"

	"lethe/api"
	"lethe/curve"
)

// agreeing: P17.5, for right pairs and a number.
func agreeing(t *testing.T, what string, c cast, number uint32) started {
	t.Helper()
	s := toldStart(t, what, c.a, c.e, c.offer(number))
	hello := s.hello
	if s.e != api.OK {
		hello = c.hello(number)
	}
	m := toldMeet(t, what, c.b, c.p, hello)
	if want := (met{s.secret, s.sid, s.bind, s.e}); m != want {
		t.Errorf("P17.5: %s: Meet answers %+v\nwant what Start has, %+v", what, m, want)
	}
	return s
}

// P17.5: drawn right pairs, and pairs that the program makes itself.
func TestTheyAgree(t *testing.T) {
	r := rand.New(rand.NewSource(17))
	for i := range 200 {
		c := drawnCast(r)
		if made, e := curve.NewPair(c.a.Priv[:]); e != api.OK || made != c.a {
			t.Fatalf("curve makes another pair: error %d, %+v, want %+v", e, made, c.a)
		}
		if s := agreeing(t, fmt.Sprintf("drawn %d", i), c, r.Uint32()|1); s.e != api.OK {
			t.Errorf("P17.5: drawn %d: error %d", i, s.e)
		}
		agreeing(t, fmt.Sprintf("drawn %d, no number", i), c, 0)
	}
}

// P17.5: one pair in several places, in all ways in which four places may share pairs.
func TestSharedPlaces(t *testing.T) {
	pairs := [4]api.Pair{pair(1), pair(2), pair(3), pair(4)}
	for n := range 256 {
		c := cast{pairs[n&3], pairs[n>>2&3], pairs[n>>4&3], pairs[n>>6]}
		if s := agreeing(t, fmt.Sprintf("places %08b", n), c, 5); s.e != api.OK {
			t.Errorf("P17.5: places %08b: error %d", n, s.e)
		}
	}
}

// P17.5: a right pair's private key need not be clamped.
func TestUnclampedRightPairs(t *testing.T) {
	r := rand.New(rand.NewSource(5))
	for i := range 20 {
		c := drawnCast(r)
		for _, x := range []*api.Pair{&c.a, &c.e, &c.b, &c.p} {
			x.Priv = sameClamped(x.Priv)[r.Intn(32)]
		}
		agreeing(t, fmt.Sprintf("unclamped %d", i), c, 1)
	}
}

// P17.1, P17.3, P17.4: arguments of any bytes: pairs that are not right ones, public keys with their highest bit, numbers at random.
func TestDrawnArguments(t *testing.T) {
	r := rand.New(rand.NewSource(3))
	low := lowKeys()
	public := func() api.Key {
		if r.Intn(8) == 0 {
			return low[r.Intn(len(low))]
		}
		return drawnKey(r)
	}
	number := func() uint32 { return r.Uint32() >> r.Intn(33) }
	refusals := map[api.Errno]int{}
	for i := range 400 {
		own, other := api.Pair{Priv: drawnKey(r), Pub: public()}, api.Pair{Priv: drawnKey(r), Pub: public()}
		what := fmt.Sprintf("drawn %d", i)
		s := toldStart(t, what, own, other, api.Offer{Identity: public(), Prekey: number(), Key: public()})
		m := toldMeet(t, what, own, other, api.Hello{Identity: public(), Once: public(), Prekey: number()})
		refusals[s.e]++
		refusals[m.e]++
	}
	if refusals[api.OK] < 100 || refusals[api.ErrPoint] < 20 || refusals[api.ErrBundle] < 5 {
		t.Errorf("too few of a kind: %v", refusals)
	}
}

// P17.6: private keys that clamp to the same are the same.
func TestClampedToTheSame(t *testing.T) {
	c := someCast()
	s, m := toldStart(t, "clamped", c.a, c.e, c.offer(3)), toldMeet(t, "clamped", c.b, c.p, c.hello(3))
	with := func(x api.Pair, priv api.Key) api.Pair { return api.Pair{Priv: priv, Pub: x.Pub} }
	for i := range 32 {
		a, e := with(c.a, sameClamped(c.a.Priv)[i]), with(c.e, sameClamped(c.e.Priv)[i])
		b, p := with(c.b, sameClamped(c.b.Priv)[i]), with(c.p, sameClamped(c.p.Priv)[i])
		if start(a, c.e, c.offer(3)) != s || start(c.a, e, c.offer(3)) != s || start(a, e, c.offer(3)) != s {
			t.Errorf("P17.6: Start sees form %d of a private key", i)
		}
		if meet(b, c.p, c.hello(3)) != m || meet(c.b, p, c.hello(3)) != m || meet(b, p, c.hello(3)) != m {
			t.Errorf("P17.6: Meet sees form %d of a private key", i)
		}
	}
}

// P17.6: the number counts for nothing but whether it is 0, and for the hello's own.
func TestNumbers(t *testing.T) {
	c := someCast()
	s, m := start(c.a, c.e, c.offer(1)), meet(c.b, c.p, c.hello(1))
	for _, number := range []uint32{1, 2, 255, 256, 1 << 16, 1<<24 + 1, 1<<31 - 1, 1 << 31, lastNumber - 1, lastNumber} {
		want := s
		want.hello.Prekey = number
		if got := start(c.a, c.e, c.offer(number)); got.e != api.OK || got != want {
			t.Errorf("P17.6: Start with number %d: %+v, want %+v", number, got, want)
		}
		if got := meet(c.b, c.p, c.hello(number)); got.e != api.OK || got != m {
			t.Errorf("P17.6: Meet with number %d: %+v, want %+v", number, got, m)
		}
	}
}

// P17.3, P17.4: public keys are taken as they stand: another form of an identity has the same secret and sid, but binds otherwise.
func TestPublicKeysAsTheyStand(t *testing.T) {
	c := someCast()
	s, m := start(c.a, c.e, c.offer(3)), meet(c.b, c.p, c.hello(3))
	offer := c.offer(3)
	offer.Key = highBit(offer.Key)
	if got := toldStart(t, "the offer's key in another form", c.a, c.e, offer); got != s {
		t.Errorf("P17.3: the form of the offer's key is seen: %+v, want %+v", got, s)
	}
	offer.Identity = highBit(offer.Identity)
	want := s
	want.bind[63] ^= 0x80
	if got := toldStart(t, "the offer's identity in another form", c.a, c.e, offer); got != want {
		t.Errorf("P17.3: another form of the offer's identity: %+v, want %+v", got, want)
	}
	hello := c.hello(3)
	hello.Once = highBit(hello.Once)
	if got := toldMeet(t, "Once in another form", c.b, c.p, hello); got != m {
		t.Errorf("P17.4: the form of Once is seen: %+v, want %+v", got, m)
	}
	hello.Identity = highBit(hello.Identity)
	wantMet := m
	wantMet.bind[31] ^= 0x80
	if got := toldMeet(t, "the hello's identity in another form", c.b, c.p, hello); got != wantMet {
		t.Errorf("P17.4: another form of the hello's identity: %+v, want %+v", got, wantMet)
	}
}

// P17.3, P17.4: of pairs that are not right ones the public key makes no secret, but stands in bind and hello; a prekey's public key counts for nothing.
func TestPairsThatAreNotRight(t *testing.T) {
	c := someCast()
	s, m := start(c.a, c.e, c.offer(3)), meet(c.b, c.p, c.hello(3))
	for i, pub := range append(lowKeys(), filled(0xff), c.p.Pub) {
		what := fmt.Sprintf("public key %d", i)
		own, once := api.Pair{Priv: c.a.Priv, Pub: pub}, api.Pair{Priv: c.e.Priv, Pub: pub}
		want := s
		want.hello.Identity, want.bind = pub, wordsBind(pub, c.b.Pub)
		if got := toldStart(t, what, own, c.e, c.offer(3)); got != want {
			t.Errorf("P17.3: %s as own: %+v, want %+v", what, got, want)
		}
		want = s
		want.hello.Once = pub
		if got := toldStart(t, what, c.a, once, c.offer(3)); got != want {
			t.Errorf("P17.3: %s as once: %+v, want %+v", what, got, want)
		}
		wantMet := m
		wantMet.bind = wordsBind(c.a.Pub, pub)
		if got := toldMeet(t, what, api.Pair{Priv: c.b.Priv, Pub: pub}, c.p, c.hello(3)); got != wantMet {
			t.Errorf("P17.4: %s as own: %+v, want %+v", what, got, wantMet)
		}
		if got := toldMeet(t, what, c.b, api.Pair{Priv: c.p.Priv, Pub: pub}, c.hello(3)); got != m {
			t.Errorf("P17.4: %s as the prekey's is seen: %+v, want %+v", what, got, m)
		}
	}
}
