package keyring_test

import (
	"fmt"
	"testing"

	"lethe/api"
	"lethe/keyring"
)

// fault: one of P19.5's errors, as something that is done to a right store, or to right draws.
type fault struct {
	name  string
	code  api.Errno
	store func(b *bench)
	draws func(list [][]byte) [][]byte
}

// faults: in the order in which the chapter names them; those of one rank are of one error.
func faults() [][]fault {
	value := func(table int, value []byte) func(b *bench) {
		return func(b *bench) { b.put(rec(table, one(), value)) }
	}
	gone := func(table int) func(b *bench) {
		return func(b *bench) { b.drop(table, one()) }
	}
	full := func(n int) func(b *bench) {
		return func(b *bench) {
			for i := range n {
				b.put(prekey(100+i, steps(byte(i), 64)))
			}
		}
	}
	behind := func(draw []byte) func([][]byte) [][]byte {
		return func(list [][]byte) [][]byte { return append(list, draw) }
	}
	ahead := func(draw []byte) func([][]byte) [][]byte {
		return func(list [][]byte) [][]byte { return append([][]byte{draw}, list...) }
	}
	return [][]fault{
		{{"no limits", 123, gone(1), nil}, {"short limits", 123, value(1, zeros(13)), nil}, {"wrong limits", 123, value(1, zeros(14)), nil}, {"long limits", 123, value(1, zeros(15)), nil}},
		{{"no identity", 123, gone(2), nil}, {"a short identity", 123, value(2, zeros(63)), nil}, {"a long identity", 123, value(2, zeros(65)), nil}},
		{{"no bytes", 71, nil, behind(nil)}, {"31 bytes", 71, nil, ahead(steps(1, 31))}, {"33 bytes", 71, nil, behind(steps(1, 33))}, {"64 bytes", 71, nil, ahead(steps(1, 64))}},
		{{"no count", 123, gone(7), nil}, {"a short count", 123, value(7, zeros(3)), nil}, {"a long count", 123, value(7, zeros(5)), nil}, {"an empty count", 123, value(7, nil), nil}},
		{{"full", 191, full(3), nil}, {"overfull", 191, full(7), nil}},
		{{"at the end", 130, value(7, four(4)), nil}, {"behind the end", 130, value(7, four(5)), nil}, {"at the last number", 130, value(7, four(1<<32-1)), nil}},
	}
}

func (f fault) done(b *bench, list [][]byte) [][]byte {
	if f.store != nil {
		f.store(b)
	}
	if f.draws != nil {
		list = f.draws(list)
	}
	return list
}

// P19.5: each error alone, and each beside each that is named behind it. (A count is not both missing and at its end: there the first one is done last, so that it stands.)
func TestOrderOfPublish(t *testing.T) {
	ranks := faults()
	b := created(t, someLimits())
	for i, rank := range ranks {
		for _, f := range rank {
			b.isPublished(f.name, f.done(b, draws(1, 1)), f.code)
			b.abort()
			for _, later := range ranks[i+1:] {
				for _, g := range later {
					b.isPublished(f.name+" and "+g.name, f.done(b, g.done(b, draws(1, 1))), f.code)
					b.abort()
				}
			}
		}
	}
	b.isPublished("no fault", draws(1, 1), 0, 1)
}

// P19.5: all faults at once, and one after the other mended, the first one first.
func TestFaultsMended(t *testing.T) {
	b := created(t, someLimits())
	ranks := faults()
	for i := range ranks {
		list := draws(1, 1)
		for k := len(ranks) - 1; k >= i; k-- {
			list = ranks[k][0].done(b, list)
		}
		b.isPublished(ranks[i][0].name, list, ranks[i][0].code)
		b.abort()
	}
}

// P19.5: no draw, one, as many as the limits take, one more, and far more, with no prekey there, with some, and with all.
func TestPublishToTheLimit(t *testing.T) {
	for _, most := range []int{1, 2, 3, 64} {
		for there := range most + 3 {
			if there > 3 && there < most-1 {
				continue
			}
			b := created(t, wideLimits(most, 1<<32-1))
			for i := range there {
				b.put(prekey(1000+i, steps(byte(i), 64)))
			}
			left := most - there
			for _, n := range []int{0, 1, left - 1, left, left + 1, left + 2, most, most + 1, 300} {
				if n < 0 {
					continue
				}
				what := fmt.Sprintf("%d of %d are there, %d draws", there, most, n)
				offers, e := b.publish(what, draws(1, n)...)
				want, number := api.Errno(191), 0
				if n <= left {
					want, number = 0, n
				}
				if e != want || len(offers) != number {
					t.Errorf("P19.5: %s: %d offers, %d", what, len(offers), e)
				}
				if kept := len(wordsTable(b.seen(), 3)); kept > max(most, there) {
					t.Errorf("P19.8: %s: %d prekeys", what, kept)
				}
				for k := range number {
					b.drop(3, four(k+1))
				}
				b.put(rec(7, one(), four(0)))
			}
		}
	}
}

// P19.5: a great many draws are refused before any pair is worked out.
func TestFarTooManyDraws(t *testing.T) {
	b := created(t, wideLimits(64, 1<<32-1))
	many := make([][]byte, 1<<18)
	for i := range many {
		many[i] = draw(1)
	}
	offers, e := keyring.Publish(b.x, many...)
	if e != 191 || len(offers) != 0 {
		t.Errorf("P19.5: %d offers, %d", len(offers), e)
	}
	many[len(many)-1] = nil
	offers, e = keyring.Publish(b.x, many...)
	if e != 71 || len(offers) != 0 {
		t.Errorf("P19.5: %d offers, %d", len(offers), e)
	}
	b.isSeen("far too many")
}

// P19.5: up to the last number that Counter takes, and one beyond; no sum wraps round.
func TestPublishToTheCounter(t *testing.T) {
	for _, counter := range []int{1, 2, 4, 255, 256, 65536, 1<<31 - 1, 1 << 31, 1<<32 - 2, 1<<32 - 1} {
		b := created(t, wideLimits(64, uint32(counter)))
		for _, was := range []int{0, counter - 3, counter - 2, counter - 1, counter, counter + 1, 1<<32 - 2, 1<<32 - 1} {
			if was < 0 || was > 1<<32-1 {
				continue
			}
			for n := range 5 {
				what := fmt.Sprintf("counter %d, %d published, %d draws", counter, was, n)
				b.put(rec(7, one(), four(was)))
				offers, e := b.publish(what, draws(1, n)...)
				if was+n > counter {
					isCode(t, "P19.5: "+what, e, 130)
				} else {
					isCode(t, "P19.5: "+what, e, 0)
				}
				for i, o := range offers {
					if int(o.Prekey) != was+1+i {
						t.Errorf("P19.5: %s: offer %d has number %d", what, i, o.Prekey)
					}
				}
				b.abort()
			}
		}
	}
}

// P19.5: of no draw nothing is put, not even the count anew; nil, an empty list and no argument are one.
func TestPublishOfNothing(t *testing.T) {
	b := created(t, someLimits())
	for _, none := range [][][]byte{nil, {}, draws(1, 2)[:0]} {
		b.isPublished("nothing", none, 0)
	}
	b.isPublished("one that is nil", [][]byte{nil}, 71)
	b.put(rec(7, one(), four(4)))
	b.isPublished("nothing, at the counter's end", nil, 0)
	b.put(rec(7, one(), four(5)))
	b.isPublished("nothing, behind the counter's end", nil, 130)
	for i := range 4 {
		b.put(prekey(i+1, zeros(64)))
	}
	b.isPublished("nothing, more prekeys than may be", nil, 191)
}

// P19.5: pairs and offers are those of the draws, in their turn; at once or one by one, the records are the same.
func TestPublishPairs(t *testing.T) {
	list := append(draws(1, 20), zeros(32), steps(0xff, 32), draw(3), draw(3))
	b, single := created(t, wideLimits(64, 100)), created(t, wideLimits(64, 100))
	own, _ := b.identity("own")
	offers, e := b.publish("at once", list...)
	isCode(t, "Publish", e, 0)
	for i, o := range offers {
		p := wordsPair(list[i])
		if o != (api.Offer{Identity: own.Pub, Prekey: uint32(i + 1), Key: p.Pub}) {
			t.Errorf("P19.5: offer %d is %x", i, o)
		}
		if found, e := b.find("a pair", o.Prekey); e != 0 || found != p || found.Pub != o.Key {
			t.Errorf("P19.6: prekey %d is %x, %d", o.Prekey, found, e)
		}
		if alone, e := single.publish("one by one", list[i]); e != 0 || len(alone) != 1 || alone[0] != o {
			t.Errorf("P19.5: one by one: %x, %d", alone, e)
		}
	}
	if len(offers) != len(list) || !sameList(b.seen(), single.seen()) {
		t.Errorf("P19.5: %d offers; one by one the records are others", len(offers))
	}
}

// P19.5, P19.6: of one draw several prekeys may be made; each has its number, and goes by itself.
func TestSameDraw(t *testing.T) {
	b := created(t, someLimits())
	b.isPublished("the same twice", [][]byte{draw(1), draw(1)}, 0, 1, 2)
	b.use("the first", 1)
	if p, e := b.find("the second", 2); e != 0 || p != wordsPair(draw(1)) {
		t.Errorf("P19.6: %x, %d", p, e)
	}
	b.areNumbers("left", 2)
	b.isPublished("the identity's", [][]byte{steps(0, 32)}, 0, 3)
	b.use("the identity's", 3)
	if p, e := b.identity("the identity's"); e != 0 || p != wordsPair(steps(0, 32)) {
		t.Errorf("P19.4: %x, %d", p, e)
	}
}
