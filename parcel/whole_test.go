package parcel_test

import (
	"fmt"
	"math/rand"
	"slices"
	"strings"
	"testing"

	"lethe/parcel"
)

// inOrder: P26.2 of one text and one order: each part is taken once, and refused as often as it comes again; whole with the last one alone.
func inOrder(t *testing.T, text string, order []int) {
	t.Helper()
	parts := split(t, 7, text)
	x, _ := parcel.New(1)
	for i, k := range order {
		id, whole, e := x.Add("bob", []byte(parts[k]))
		if id != 7 || whole != (i == len(order)-1) || e != 0 {
			t.Fatalf("P26.2: %d bytes, %v: part %d: %d, %v, error %d", len(text), order, k, id, whole, e)
		}
		for _, again := range []int{k, order[0], order[i/2]} {
			if id, whole, e := x.Add("bob", []byte(parts[again])); id != 0 || whole || e != twice {
				t.Fatalf("P26.2: %d bytes, %v: part %d again: %d, %v, error %d", len(text), order, again, id, whole, e)
			}
		}
	}
	if got, e := x.Take("bob", 7); string(got) != text || e != 0 {
		t.Fatalf("P26.2: %d bytes, %v: Take: %d bytes, error %d", len(text), order, len(got), e)
	}
}

// P26.2: texts of up to five parts in all orders.
func TestWholeInAllOrders(t *testing.T) {
	for _, size := range []int{0, 1, room - 1, room, room + 1, 2 * room, 2*room + 1, 3 * room, 4*room - 1, 4*room + 1, 5 * room} {
		many := len(split(t, 7, sample(size, 30)))
		for _, order := range orders(many) {
			inOrder(t, sample(size, 30), order)
		}
	}
}

// P26.2: texts of every number of parts, forwards, backwards and in drawn orders; and texts whose parts are all alike.
func TestWholeOfManyParts(t *testing.T) {
	r := rand.New(rand.NewSource(26))
	for _, size := range edges() {
		for _, text := range []string{sample(size, 31), strings.Repeat("\x00", size)} {
			rising := make([]int, len(split(t, 7, text)))
			for i := range rising {
				rising[i] = i
			}
			falling := slices.Clone(rising)
			slices.Reverse(falling)
			inOrder(t, text, rising)
			inOrder(t, text, falling)
			inOrder(t, text, r.Perm(len(rising)))
		}
	}
}

// P26.2: the parts of several texts, of several peers, in one drawn stream, each part now and then again.
func TestWholeOfManyStreams(t *testing.T) {
	r := rand.New(rand.NewSource(2602))
	for run := range 20 {
		type packet struct{ peer, part string }
		var stream []packet
		b := newBench(t, 12)
		for k := range 12 {
			peer := []string{"bob", "eve", "carol"}[k%3]
			for _, part := range split(t, uint32(k/3), sample(r.Intn(6*room), int64(run))) {
				for range 1 + r.Intn(3) {
					stream = append(stream, packet{peer, part})
				}
			}
		}
		r.Shuffle(len(stream), func(i, j int) { stream[i], stream[j] = stream[j], stream[i] })
		for _, p := range stream {
			b.add(fmt.Sprint("run ", run), p.peer, p.part)
		}
		for k := range 12 {
			b.isCode("whole", b.take("whole", []string{"bob", "eve", "carol"}[k%3], uint32(k/3)), 0)
		}
	}
}

// pool: parts that are drawn from: right ones of some texts under few ids, such of a wrong sum, of wrong contents, and bytes that are none.
func pool(t *testing.T, r *rand.Rand) []string {
	var all []string
	for k, size := range []int{0, 1, room, room + 1, 2 * room, 2*room + 3, 3 * room} {
		for _, id := range []uint32{0, 7} {
			for _, part := range split(t, id, sample(size, int64(k))) {
				all = append(all, part, part, part)
				if len(part) > 15 {
					all = append(all, flipped(part, 15+r.Intn(len(part)-15)))
				}
				all = append(all, flipped(part, r.Intn(15)))
			}
		}
	}
	return append(all, "", "\x05", strings.Repeat("\x05", 512))
}

func step(what string, r *rand.Rand, b *bench, parts []string) {
	b.t.Helper()
	peer := []string{"bob", "bob", "bob", "eve", "eve", "carol", "", strings.Repeat("x", 17)}[r.Intn(8)]
	id := []uint32{0, 7, 7, 8}[r.Intn(4)]
	switch r.Intn(20) {
	case 0:
		b.drop(what, peer)
	case 1, 2, 3:
		b.take(what, peer, id)
	case 4:
		b.missing(what, peer, id)
	default:
		b.add(what, peer, parts[r.Intn(len(parts))])
	}
}

// P26.1, P26.2, P26.3: drawn calls, held against the chapter's words behind each call.
func TestDrawnCalls(t *testing.T) {
	r := rand.New(rand.NewSource(2601))
	seen := map[int]int{}
	for run := range 60 {
		b := newBench(t, 1+r.Intn(6))
		parts := pool(t, r)
		for n := range 300 {
			step(fmt.Sprintf("run %d, call %d", run, n), r, b, parts)
			if t.Failed() {
				return
			}
			seen[b.x.Len()]++
		}
	}
	for n := range 6 {
		if seen[n] == 0 {
			t.Errorf("the calls show little: never %d parcels", n)
		}
	}
}

// P26.1, P26.3: drawn fields under few sums: contents of right ones mixed with each other; what is taken at last has the sum that its parts tell.
func TestDrawnMixtures(t *testing.T) {
	r := rand.New(rand.NewSource(2603))
	a, c := sample(2*room, 1), sample(2*room, 2)
	mixed := []string{a, c, a[:room] + c[room:], c[:room] + a[room:], a[:room] + a[:room], a[room:] + a[:room]}
	taken := 0
	for run := range 300 {
		b := newBench(t, 1)
		for n := range 40 {
			sum := wordsSum(mixed[r.Intn(2)+run%3*2])
			from := mixed[r.Intn(len(mixed))]
			index := r.Intn(2)
			what := fmt.Sprintf("run %d, call %d", run, n)
			b.add(what, "bob", written(7, 2, index, sum, from[index*room:][:room]))
			if r.Intn(4) == 0 && b.take(what, "bob", 7) == 0 {
				taken++
			}
			if r.Intn(10) == 0 {
				b.drop(what, "bob")
			}
		}
		if t.Failed() {
			return
		}
	}
	if taken < 100 {
		t.Errorf("the calls show little: %d parcels were taken", taken)
	}
}

// Rule 5: trays go their ways without seeing one another; one that is handed the same calls answers the same.
func TestTraysInTurns(t *testing.T) {
	r := rand.New(rand.NewSource(2604))
	one, other, twin := newBench(t, 3), newBench(t, 2), newBench(t, 3)
	parts := pool(t, r)
	for n := range 1000 {
		seed := r.Int63()
		step(fmt.Sprintf("one, call %d", n), rand.New(rand.NewSource(seed)), one, parts)
		step(fmt.Sprintf("other, call %d", n), r, other, parts)
		step(fmt.Sprintf("twin, call %d", n), rand.New(rand.NewSource(seed)), twin, parts)
		if t.Failed() {
			return
		}
	}
}

// Rule 5: to ask changes nothing, however often.
func TestAskingChangesNothing(t *testing.T) {
	b := newBench(t, 1)
	parts := split(t, 7, sample(room+1, 33))
	for _, part := range parts {
		for range 50 {
			b.x.Len()
			b.x.Missing("bob", 7)
			b.x.Missing("eve", 7)
		}
		b.isSame("asked")
		b.addAll("goes on", "bob", part)
	}
	for range 50 {
		b.missing("whole", "bob", 7)
	}
	b.isCode("whole", b.take("whole", "bob", 7), 0)
}
