package header_test

import (
	"bytes"
	"fmt"
	"math/rand"
	"testing"

	"lethe/api"
	"lethe/header"
)

// handedIn: bytes for all calls: right packets and bundles, ones with each kind of fault, bodies at and beside their bounds.
func handedIn() [][]byte {
	list := [][]byte{nil, {}, {1}, {1, 2}, {2, 2}, {1, 9}, steps(1, 31), steps(1, 32), steps(2, 544), steps(3, 545)}
	for _, p := range bothKinds() {
		b := wordsBytes(p)
		list = append(list, b, b[:len(b)-1], joined(b, []byte{5}))
	}
	b := wordsOffer(anOffer())
	noHello := first(32)
	noHello.Hello = api.Hello{}
	return append(list, b, b[:69], joined(b, []byte{5}), wordsOffer(api.Offer{}), wordsBytes(noHello))
}

// answers: all lists that all calls answer, each given these bytes as far as it takes any.
func answers(b []byte) [][]byte {
	p, q := plain(0), first(0)
	p.Body, q.Body = b, b
	packedPlain, _ := header.Pack(p)
	packedFirst, _ := header.Pack(q)
	unpacked, _ := header.Unpack(b)
	o, _ := header.ReadOffer(b)
	return [][]byte{packedPlain, packedFirst, unpacked.Body, header.Encode(unpacked.Header), header.Offer(o)}
}

func copies(list [][]byte) [][]byte {
	var out [][]byte
	for _, b := range list {
		out = append(out, joined(b))
	}
	return out
}

// P14.1: what is handed in is as it was, spare room too; and no answer hangs on it any more, nor it on the answer.
func TestHandedInStays(t *testing.T) {
	for i, given := range handedIn() {
		b := roomy(given)
		before := joined(whole(b))
		outs := answers(b)
		if !bytes.Equal(whole(b), before) {
			t.Fatalf("P14.1: list %d, or what lies behind it, has changed", i)
		}
		was := copies(outs)
		for k := range whole(b) {
			whole(b)[k] ^= 0xff
		}
		for k, out := range outs {
			if !bytes.Equal(out, was[k]) {
				t.Errorf("P14.1: list %d: answer %d sees what is written into what was handed in", i, k)
			}
		}
		written := joined(whole(b))
		for _, out := range outs {
			for k := range whole(out) {
				whole(out)[k] = 0xaa
			}
			_ = append(out, 1, 2, 3)
		}
		if !bytes.Equal(whole(b), written) {
			t.Errorf("P14.1: list %d sees what is written into an answer", i)
		}
	}
}

// P14.1: two answers, of the same or of different calls, share no memory, spare room too.
func TestAnswersAreNew(t *testing.T) {
	for i, b := range handedIn() {
		outs := append(answers(b), answers(b)...)
		was := copies(outs)
		for k, out := range outs {
			for n := range whole(out) {
				whole(out)[n] ^= 0x55
			}
			for other := k + 1; other < len(outs); other++ {
				if !bytes.Equal(outs[other], was[other]) {
					t.Fatalf("P14.1: list %d: answers %d and %d share memory", i, k, other)
				}
			}
		}
	}
}

// P14.1: a packet that is handed in stays, and one that is unpacked is not touched by what is written into its bytes.
func TestPacketsStay(t *testing.T) {
	for _, p := range bothKinds() {
		was := joined(p.Body)
		q := p
		b, _ := header.Pack(q)
		clear(whole(b))
		if !samePacket(p, q) || !bytes.Equal(p.Body, was) {
			t.Errorf("P14.1: Kind %d: the packet has changed", p.Kind)
		}
		b = roomy(wordsBytes(p))
		got, _ := header.Unpack(b)
		clear(whole(b))
		if !samePacket(got, p) {
			t.Errorf("P14.1: Kind %d: what was unpacked has changed with its bytes", p.Kind)
		}
	}
}

// P14.1: packets that lie in one array, one behind the other.
func TestPacketsOfOneArray(t *testing.T) {
	p, q := plain(32), first(40)
	array := joined(wordsBytes(p), wordsBytes(q))
	middle := len(wordsBytes(p))
	before := joined(array)
	isUnpacked(t, "the first", array[:middle], p, 0)
	isUnpacked(t, "the second", array[middle:], q, 0)
	isRefused(t, "both", array, 11)
	within := plain(0)
	within.Body = array[10:60]
	isPacked(t, "a body within the array", within, wordsBytes(within), 0)
	if !bytes.Equal(array, before) {
		t.Errorf("P14.1: the array has changed")
	}
}

// P14.1: what a call answers hangs on what it is given alone: the same again, whatever was called and written in between.
func TestSameAgain(t *testing.T) {
	list := handedIn()
	var first [][][]byte
	for _, b := range list {
		first = append(first, answers(b))
	}
	for range 2 {
		for i := len(list) - 1; i >= 0; i-- {
			again := answers(list[i])
			for k := range again {
				if !bytes.Equal(again[k], first[i][k]) {
					t.Fatalf("P14.1: list %d: answer %d is another one the next time", i, k)
				}
				clear(whole(again[k]))
			}
		}
	}
}

// P14.1: drawn bytes of all lengths: every call ends, and answers what the chapter's words say.
func TestNothingPanics(t *testing.T) {
	r := rand.New(rand.NewSource(9))
	for n := range 20000 {
		b := make([]byte, []int{r.Intn(4), r.Intn(140), 62, 63, 64, 70, 96, 130, 131, 132, 164, r.Intn(800)}[r.Intn(12)])
		for i := range b {
			b[i] = byte(r.Intn(1 << (1 + r.Intn(8))))
		}
		if len(b) > 1 && r.Intn(8) > 0 {
			b[0], b[1] = 1, byte(1+r.Intn(3))
		}
		if at := []int{62, 130}[r.Intn(2)]; len(b) > at+1 && r.Intn(2) == 0 {
			said := len(b) - at - 2 + r.Intn(3) - 1
			b[at], b[at+1] = byte(said>>8), byte(said)
		}
		what := fmt.Sprintf("draw %d", n)
		p, e := wordsUnpack(b)
		isUnpacked(t, what, b, p, e)
		o, e := wordsReadOffer(b)
		isOffer(t, what, b, o, e)
		p = drawnPacket(r)
		p.Body = b
		packed, e := wordsPack(p)
		isPacked(t, what, p, packed, e)
	}
}
