package header_test

import (
	"fmt"
	"math/rand"
	"testing"

	"lethe/api"
)

// P14.4: both kinds, bodies at both bounds and between them.
func TestUnpack(t *testing.T) {
	for n := 32; n <= 544; n++ {
		for _, p := range []api.Packet{plain(n), first(n)} {
			isUnpacked(t, fmt.Sprintf("Kind %d with %d bytes", p.Kind, n), wordsBytes(p), p, 0)
		}
	}
}

// P14.4: every two bytes that a packet could begin with, with enough behind them and with nothing; fewer than two are asked for ahead of the version.
func TestUnpackStarts(t *testing.T) {
	for version := range 256 {
		isRefused(t, fmt.Sprintf("%02x alone", version), []byte{byte(version)}, 10)
		for kind := range 256 {
			var want api.Errno
			switch {
			case version != 1:
				want = 140
			case kind != 1 && kind != 2:
				want = 103
			default:
				want = 10
			}
			what := fmt.Sprintf("%02x %02x", version, kind)
			isRefused(t, what, []byte{byte(version), byte(kind)}, want)
			if want != 10 {
				isRefused(t, what+" and more", joined([]byte{byte(version), byte(kind)}, steps(1, 200)), want)
			}
		}
	}
}

// P14.4: which hello a First packet may have; a Plain one has none, whatever bytes stand there.
func TestUnpackHellos(t *testing.T) {
	for _, c := range helloCases() {
		p := first(40)
		p.Hello = c.hello
		if c.first {
			isUnpacked(t, c.what, wordsBytes(p), p, 0)
		} else {
			isRefused(t, c.what, wordsBytes(p), 141)
		}
	}
}

// P14.4: a body's number at each value near the bounds, and as many bytes, fewer and more behind it.
func TestUnpackBodies(t *testing.T) {
	numbers := []int{0, 1, 16, 30, 31, 32, 33, 34, 255, 256, 257, 543, 544, 545, 546, 800, 0x0120, 0x2000, 0x2002, 0xff20, 65535}
	for _, start := range [][]byte{wordsBytes(plain(0)), wordsBytes(first(0))} {
		ahead := start[:len(start)-2]
		for _, said := range numbers {
			for _, there := range []int{0, 1, 31, 32, 33, said - 1, said, said + 1, 544, 545, 70000} {
				if there < 0 {
					continue
				}
				b := joined(ahead, run(said, steps(3, there)))
				what := fmt.Sprintf("Kind %d: %d bytes said, %d there", b[1], said, there)
				switch {
				case said < 32:
					isRefused(t, what, b, 10)
				case said > 544:
					isRefused(t, what, b, 5)
				case there < said:
					isRefused(t, what, b, 10)
				case there > said:
					isRefused(t, what, b, 11)
				default:
					p, _ := wordsUnpack(b)
					p.Body = steps(3, said)
					isUnpacked(t, what, b, p, 0)
				}
			}
		}
	}
}

// P14.4: every set of the faults that a packet's bytes may have together; the first one is told.
func TestUnpackOrder(t *testing.T) {
	const (
		version = 1 << iota
		kind
		hello
		short
		long
		all
	)
	for set := range all {
		for _, there := range []int{-1, 0, 1} { // fewer bytes than are said, as many, more
			p := first(100)
			if set&hello != 0 {
				p.Hello.Identity = api.Key{}
			}
			b := wordsBytes(p)
			said := 100
			switch {
			case set&short != 0 && set&long != 0:
				continue
			case set&short != 0:
				said = 31
			case set&long != 0:
				said = 545
			}
			b = joined(b[:130], run(said, steps(9, said+there)))
			want := api.Errno(0)
			if there != 0 {
				want = []api.Errno{10, 0, 11}[there+1]
			}
			if set&long != 0 {
				want = 5
			}
			if set&short != 0 {
				want = 10
			}
			if set&hello != 0 {
				want = 141
			}
			if set&kind != 0 {
				b[1], want = 3, 103
			}
			if set&version != 0 {
				b[0], want = 0, 140
			}
			what := fmt.Sprintf("faults %05b, %d bytes beside", set, there)
			if want == 0 {
				isUnpacked(t, what, b, p, 0)
			} else {
				isRefused(t, what, b, want)
			}
		}
	}
}

// P14.4: what is missing ahead of the body's bytes is found ahead of a wrong hello, at every cut; behind that the hello is.
func TestUnpackCutWithWrongHello(t *testing.T) {
	for _, wrong := range []api.Hello{{}, {Identity: api.Key{1}}, {Prekey: 1}} {
		p := first(40)
		p.Hello = wrong
		b := wordsBytes(p)
		for cut := range b {
			want := api.Errno(141)
			if cut < 2+68+60+2 {
				want = 10
			}
			isRefused(t, fmt.Sprintf("cut at %d", cut), b[:cut], want)
		}
		isRefused(t, "and more", joined(b, []byte{1}), 141)
	}
}

// P14.4: drawn packets' bytes, right and wrong ones, with bytes turned, cut and added, held against the chapter's words.
func TestUnpackDrawn(t *testing.T) {
	r := rand.New(rand.NewSource(3))
	taken := 0
	for n := range 20000 {
		b := wordsBytes(drawnPacket(r))
		switch r.Intn(6) {
		case 0:
			b[r.Intn(len(b))] ^= byte(1 + r.Intn(255))
		case 1:
			b = b[:r.Intn(len(b))]
		case 2:
			b = joined(b, steps(1, 1+r.Intn(40)))
		case 3:
			b[r.Intn(2)] = byte(r.Intn(4))
		}
		want, e := wordsUnpack(b)
		isUnpacked(t, fmt.Sprintf("draw %d", n), b, want, e)
		if e == 0 {
			taken++
		}
	}
	if taken < 2000 || taken > 18000 {
		t.Errorf("%d of the draws are right: one of both kinds is hardly tried", taken)
	}
}
