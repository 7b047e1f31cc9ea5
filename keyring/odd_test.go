package keyring_test

import (
	"fmt"
	"testing"

	"lethe/api"
)

// Stores that are no client's: for each table the records that may stand there.

func oddLimits() map[string][]api.Record {
	b := wordsLimitsBytes(someLimits())
	rows := map[string][]api.Record{
		"right":         recs(rec(1, one(), b)),
		"one prekey":    recs(rec(1, one(), wordsLimitsBytes(wideLimits(1, 1)))),
		"the most":      recs(rec(1, one(), wordsLimitsBytes(api.Limits{Peers: 16, Prekeys: 64, Skip: 64, Skips: 256, Outbox: 64, Counter: 1<<32 - 1}))),
		"missing":       nil,
		"empty":         recs(rec(1, one(), nil)),
		"too short":     recs(rec(1, one(), b[:13])),
		"too long":      recs(rec(1, one(), joined(b, one()))),
		"twice":         recs(rec(1, one(), joined(b, b))),
		"zeros":         recs(rec(1, one(), zeros(14))),
		"elsewhere":     recs(rec(1, []byte{0, 0}, b), rec(1, []byte{1}, b)),
		"and elsewhere": recs(rec(1, one(), b), rec(1, []byte{0, 0}, zeros(3)), rec(1, []byte{1}, wordsLimitsBytes(wideLimits(64, 9)))),
	}
	for _, l := range []api.Limits{
		{Peers: 17, Prekeys: 3, Skip: 4, Skips: 8, Outbox: 4, Counter: 4}, {Peers: 2, Prekeys: 65, Skip: 4, Skips: 8, Outbox: 4, Counter: 4},
		{Peers: 2, Prekeys: 0, Skip: 4, Skips: 8, Outbox: 4, Counter: 4}, {Peers: 2, Prekeys: 3, Skip: 65, Skips: 8, Outbox: 4, Counter: 4},
		{Peers: 2, Prekeys: 3, Skip: 4, Skips: 257, Outbox: 4, Counter: 4}, {Peers: 2, Prekeys: 3, Skip: 4, Skips: 8, Outbox: 65, Counter: 4},
		{Peers: 2, Prekeys: 3, Skip: 4, Skips: 8, Outbox: 4, Counter: 0},
	} {
		rows[fmt.Sprint(l)] = recs(rec(1, one(), wordsLimitsBytes(l)))
	}
	return rows
}

func oddIdentities() map[string][]api.Record {
	b := wordsPairBytes(wordsPair(steps(0, 32)))
	return map[string][]api.Record{
		"right":         recs(rec(2, one(), b)),
		"missing":       nil,
		"empty":         recs(rec(2, one(), nil)),
		"half":          recs(rec(2, one(), b[:32])),
		"too short":     recs(rec(2, one(), b[:63])),
		"too long":      recs(rec(2, one(), joined(b, one()))),
		"far too long":  recs(rec(2, one(), zeros(900))),
		"zeros":         recs(rec(2, one(), zeros(64))),
		"no pair":       recs(rec(2, one(), steps(0x81, 64))),
		"elsewhere":     recs(rec(2, []byte{0, 0}, b), rec(2, []byte{1}, b)),
		"and elsewhere": recs(rec(2, one(), b), rec(2, []byte{0, 0}, zeros(3)), rec(2, []byte{1}, zeros(64))),
	}
}

func oddPrekeys() map[string][]api.Record {
	b := wordsPairBytes(wordsPair(draw(1)))
	rows := map[string][]api.Record{
		"none":             nil,
		"one":              recs(prekey(1, b)),
		"three":            recs(prekey(1, b), prekey(256, b), prekey(65537, b)),
		"no pair":          recs(prekey(1, steps(0x81, 64)), prekey(2, zeros(64))),
		"values":           recs(prekey(1, nil), prekey(2, b[:63]), prekey(3, joined(b, one()))),
		"a long value":     recs(prekey(1, zeros(900)), prekey(2, b[:32])),
		"ends":             recs(prekey(0, b), prekey(1<<31, b), prekey(1<<32-1, b)),
		"ahead":            recs(prekey(2, b)),
		"a short key":      recs(rec(3, []byte{0, 0, 1}, b)),
		"a long key":       recs(rec(3, []byte{0, 0, 0, 1, 0}, b)),
		"the shortest key": recs(rec(3, one(), b), prekey(1, b)),
		"the longest key":  recs(prekey(1, b), rec(3, joined(four(2), zeros(60)), b)),
		"a key at the end": recs(prekey(1, b), prekey(2, b), rec(3, []byte{255}, b)),
		"a double key":     recs(rec(3, joined(four(1), four(2)), b)),
	}
	for i := range 5 {
		rows["five"] = append(rows["five"], prekey(10+i, b))
	}
	return rows
}

func oddCounts() map[string][]api.Record {
	rows := map[string][]api.Record{
		"missing":       nil,
		"empty":         recs(rec(7, one(), nil)),
		"too short":     recs(rec(7, one(), zeros(3))),
		"too long":      recs(rec(7, one(), zeros(5))),
		"twice":         recs(rec(7, one(), joined(four(1), four(1)))),
		"far too long":  recs(rec(7, one(), zeros(64))),
		"elsewhere":     recs(rec(7, []byte{0, 0}, four(0)), rec(7, []byte{1}, four(0)), rec(7, four(0), four(0))),
		"and elsewhere": recs(rec(7, one(), four(1)), rec(7, []byte{0, 0}, four(3)), rec(7, []byte{1}, zeros(5))),
	}
	for _, n := range []int{0, 1, 2, 3, 4, 5, 255, 256, 1<<31 - 1, 1 << 31, 1<<32 - 2, 1<<32 - 1} {
		rows[fmt.Sprint(n)] = recs(rec(7, one(), four(n)))
	}
	return rows
}

// isAsked: every call, in a store with these records; behind a call that changes something all is as it was again.
func (b *bench) isAsked(what string, list []api.Record) {
	b.t.Helper()
	for _, r := range list {
		b.put(r)
	}
	was := b.list
	back := func() {
		for _, r := range b.seen() {
			b.drop(r.Table, r.Key)
		}
		for _, r := range was {
			b.put(r)
		}
	}
	b.limits(what)
	b.identity(what)
	b.numbers(what)
	for _, some := range [][][]byte{nil, draws(1, 1), draws(1, 2), draws(1, 3), {steps(1, 31)}, {draw(1), steps(1, 33)}, {nil, draw(1)}} {
		if _, e := b.publish(what, some...); e == api.OK && len(some) > 0 {
			b.numbers(what + ", published")
			back()
		}
	}
	for _, number := range []uint32{0, 1, 2, 3, 10, 256, 1 << 24, 65537, 1 << 31, 1<<32 - 1} {
		b.find(what, number)
		if _, e := b.use(what, number); e == api.OK {
			b.find(what+", used", number)
			b.use(what+", used", number)
			back()
		}
	}
	b.abort()
}

// P19.3 to P19.7: every odd record of each table beside every one of another table, the other two right.
func TestOddStores(t *testing.T) {
	tables := []map[string][]api.Record{oddLimits(), oddIdentities(), oddPrekeys(), oddCounts()}
	plain := []string{"right", "right", "one", "1"}
	b := laidOut(t, others())
	for first, rows := range tables {
		for second := first + 1; second < len(tables); second++ {
			for one, some := range rows {
				for two, more := range tables[second] {
					var list []api.Record
					for i, table := range tables {
						if i != first && i != second {
							list = append(list, table[plain[i]]...)
						}
					}
					what := fmt.Sprintf("part %d: %s, part %d: %s", first, one, second, two)
					b.isAsked(what, append(append(list, some...), more...))
					if t.Failed() {
						return
					}
				}
			}
		}
	}
}

// P19.1, P19.3 to P19.7: a store without any record, and one in which nothing but this layer's tables is wrong.
func TestBareStores(t *testing.T) {
	for name, list := range stores() {
		laidOut(t, list).isAsked(name, nil)
	}
	laidOut(t, others()).isAsked("others alone", nil)
}

// P19.3, P19.4: as they stand there, whatever was created: another record, another answer.
func TestAsItStandsThere(t *testing.T) {
	b := created(t, someLimits())
	lim := api.Limits{Peers: 16, Prekeys: 1, Skip: 0, Skips: 256, Outbox: 64, Counter: 0x01020304}
	b.put(rec(1, one(), wordsLimitsBytes(lim)))
	if l, e := b.limits("others"); e != 0 || l != lim {
		t.Errorf("P19.3: %+v, %d", l, e)
	}
	own := api.Pair{Priv: api.Key(steps(0xf1, 32)), Pub: api.Key(steps(0x33, 32))}
	b.put(rec(2, one(), wordsPairBytes(own)))
	if p, e := b.identity("no pair"); e != 0 || p != own {
		t.Errorf("P19.4: %x, %d", p, e)
	}
	if o, e := b.publish("no pair", draw(1)); e != 0 || len(o) != 1 || o[0].Identity != own.Pub || o[0].Key != wordsPair(draw(1)).Pub {
		t.Errorf("P19.5: %x, %d", o, e)
	}
	b.put(prekey(7, wordsPairBytes(own)))
	if p, e := b.find("no pair", 7); e != 0 || p != own {
		t.Errorf("P19.6: %x, %d", p, e)
	}
	if p, e := b.use("no pair", 7); e != 0 || p != own {
		t.Errorf("P19.6: %x, %d", p, e)
	}
}

// P19.6: a refused Use leaves the record, and a number's bytes stand in their order.
func TestFindAndUse(t *testing.T) {
	b := created(t, wideLimits(64, 1<<32-1))
	for i, number := range []int{0, 1, 255, 256, 65535, 65536, 1 << 24, 0x01020304, 0x04030201, 1<<31 - 1, 1 << 31, 1<<32 - 1} {
		b.put(prekey(number, wordsPairBytes(wordsPair(draw(i)))))
	}
	for i, number := range []uint32{0x01020304, 0x04030201, 0, 1<<32 - 1, 1 << 24} {
		what := fmt.Sprintf("number %d", i)
		p, e := b.find(what, number)
		isCode(t, what, e, 0)
		q, e := b.use(what, number)
		isCode(t, what, e, 0)
		if p != q || p == (api.Pair{}) {
			t.Errorf("P19.6: %s: Find and Use answer %x and %x", what, p, q)
		}
		_, e = b.use(what, number)
		isCode(t, what+", again", e, 190)
		_, e = b.find(what, number)
		isCode(t, what+", again", e, 190)
	}
	b.areNumbers("left", 1, 255, 256, 65535, 65536, 1<<31-1, 1<<31)
	for _, length := range []int{0, 1, 31, 32, 63, 65, 128, 900} {
		b.put(prekey(5, steps(9, length)))
		_, e := b.find("a length", 5)
		isCode(t, "P19.6: Find", e, 123)
		_, e = b.use("a length", 5)
		isCode(t, "P19.6: Use", e, 123)
	}
}
