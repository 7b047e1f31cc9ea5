package agree_test

import (
	"fmt"
	"testing"

	"lethe/api"
)

// Every bit of a key that isn't clamped away, or left out of a public key, makes another secret and another sid, as the words have them.
func TestEveryBitCounts(t *testing.T) {
	c := someCast()
	s, m := start(c.a, c.e, c.offer(3)), meet(c.b, c.p, c.hello(3))
	private := func(k *api.Key, bit int) bool { *k = withBitTurned(*k, bit); return bit >= 3 && bit < 254 }
	public := func(k *api.Key, bit int) bool { *k = withBitTurned(*k, bit); return bit < 255 }
	for bit := range 256 {
		for place := range 4 {
			x, offer := c, c.offer(3)
			counts := [4]func() bool{
				func() bool { return private(&x.a.Priv, bit) },
				func() bool { return private(&x.e.Priv, bit) },
				func() bool { return public(&offer.Identity, bit) },
				func() bool { return public(&offer.Key, bit) },
			}[place]()
			got := toldStart(t, fmt.Sprintf("bit %d of place %d", bit, place), x.a, x.e, offer)
			if (got.secret != s.secret) != counts || (got.sid != s.sid) != counts {
				t.Errorf("P17.6: Start, bit %d of place %d: secret %x, sid %x", bit, place, got.secret, got.sid)
			}
		}
		for place := range 4 {
			x, hello := c, c.hello(3)
			counts := [4]func() bool{
				func() bool { return private(&x.b.Priv, bit) },
				func() bool { return private(&x.p.Priv, bit) },
				func() bool { return public(&hello.Identity, bit) },
				func() bool { return public(&hello.Once, bit) },
			}[place]()
			got := toldMeet(t, fmt.Sprintf("bit %d of place %d", bit, place), x.b, x.p, hello)
			if (got.secret != m.secret) != counts || (got.sid != m.sid) != counts {
				t.Errorf("P17.6: Meet, bit %d of place %d: secret %x, sid %x", bit, place, got.secret, got.sid)
			}
		}
		if t.Failed() {
			return
		}
	}
}

// The four places are not one another's: of four pairs each order has a secret and a sid of its own.
func TestPlacesAreTold(t *testing.T) {
	pairs := [4]api.Pair{pair(1), pair(2), pair(3), pair(4)}
	secrets, sids, orders := map[api.Key]int{}, map[api.Sid]int{}, 0
	for n := range 256 {
		c := cast{pairs[n&3], pairs[n>>2&3], pairs[n>>4&3], pairs[n>>6]}
		if c.a == c.e || c.a == c.b || c.a == c.p || c.e == c.b || c.e == c.p || c.b == c.p {
			continue
		}
		s := start(c.a, c.e, c.offer(1))
		secrets[s.secret]++
		sids[s.sid]++
		orders++
	}
	if orders != 24 || len(secrets) != 24 || len(sids) != 24 {
		t.Errorf("P17.2: %d orders have %d secrets and %d sids", orders, len(secrets), len(sids))
	}
}

// P17.6: nothing is kept: calls give the same answers again, whatever was called between, refused calls too.
func TestNothingIsKept(t *testing.T) {
	c, other := someCast(), cast{pair(5), pair(6), pair(7), pair(8)}
	s, m := start(c.a, c.e, c.offer(3)), meet(c.b, c.p, c.hello(3))
	start(other.a, other.e, other.offer(9))
	meet(other.b, other.p, other.hello(9))
	start(other.a, c.e, c.offer(0))
	meet(c.b, other.p, c.hello(0))
	start(c.a, c.e, api.Offer{Identity: c.b.Pub, Prekey: 3})
	meet(c.b, c.p, api.Hello{Identity: c.a.Pub, Prekey: 3})
	if got := start(c.a, c.e, c.offer(3)); got != s {
		t.Errorf("P17.6: Start again: %+v, want %+v", got, s)
	}
	if got := meet(c.b, c.p, c.hello(3)); got != m {
		t.Errorf("P17.6: Meet again: %+v, want %+v", got, m)
	}
}

// Rule 2: what is handed in stays as it was; what a caller writes into an answer no other answer sees.
func TestHandedInAndOut(t *testing.T) {
	c := someCast()
	offer, hello := c.offer(3), c.hello(3)
	for _, number := range []uint32{3, 0} {
		offer.Prekey, hello.Prekey = number, number
		before, offerBefore, helloBefore := c, offer, hello
		s, m := start(c.a, c.e, offer), meet(c.b, c.p, hello)
		if c != before || offer != offerBefore || hello != helloBefore {
			t.Errorf("rule 2: number %d: what was handed in has changed", number)
		}
		keptStart, keptMet := start(c.a, c.e, offer), meet(c.b, c.p, hello)
		clear(s.bind[:])
		clear(s.secret[:])
		clear(m.bind[:])
		clear(m.sid[:])
		s.hello.Identity[0] ^= 1
		if start(c.a, c.e, offer) != keptStart || meet(c.b, c.p, hello) != keptMet || c != before {
			t.Errorf("rule 2: number %d: what is written into an answer is seen", number)
		}
	}
}

// Rule 5: calls that run beside one another answer as those that run alone.
func TestCallsBesideOneAnother(t *testing.T) {
	const calls = 16
	answers := make(chan error, calls)
	for i := range calls {
		go func() {
			c := cast{pair(byte(i)), pair(byte(i + 1)), pair(byte(i + 2)), pair(byte(i + 3))}
			number := uint32(i % 4)
			offer, hello := c.offer(number), c.hello(number)
			if start(c.a, c.e, offer) != wordsStart(c.a, c.e, offer) || meet(c.b, c.p, hello) != wordsMeet(c.b, c.p, hello) {
				answers <- fmt.Errorf("rule 5: call %d answers otherwise", i)
				return
			}
			answers <- nil
		}()
	}
	for range calls {
		if err := <-answers; err != nil {
			t.Error(err)
		}
	}
}
