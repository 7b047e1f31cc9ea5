package header_test

import (
	"fmt"
	"math"
	"math/rand"
	"testing"

	"lethe/api"
)

// P14.3: both kinds, bodies at both bounds and between them.
func TestPack(t *testing.T) {
	for n := 32; n <= 544; n++ {
		p, q := plain(n), first(n)
		length := []byte{byte(n / 256), byte(n % 256)}
		isPacked(t, fmt.Sprintf("Plain with %d bytes", n), p, joined([]byte{1, 2}, wordsHeader(aHeader()), length, p.Body), 0)
		hello := joined(steps(0x50, 32), steps(0x80, 32), []byte{0xd1, 0xd2, 0xd3, 0xd4})
		isPacked(t, fmt.Sprintf("First with %d bytes", n), q, joined([]byte{1, 1}, hello, wordsHeader(aHeader()), length, q.Body), 0)
	}
}

// P14.3: no kind but the two.
func TestPackKinds(t *testing.T) {
	for _, kind := range farNumbers() {
		for _, p := range []api.Packet{plain(32), first(32), {}} {
			p.Kind = kind
			isPacked(t, fmt.Sprintf("Kind %d", kind), p, nil, 103)
		}
	}
}

// helloCase: a hello, and whether a packet of each kind may have it.
type helloCase struct {
	what         string
	hello        api.Hello
	first, plain bool
}

// helloCases: the zero one, each field alone, each field missing, one bit of each field at either end.
func helloCases() []helloCase {
	key := api.Key{7}
	return []helloCase{
		{"none", api.Hello{}, false, true},
		{"an Identity alone", api.Hello{Identity: key}, false, false},
		{"a Once alone", api.Hello{Once: key}, false, false},
		{"a Prekey alone", api.Hello{Prekey: 1}, false, false},
		{"no Identity", api.Hello{Once: key, Prekey: 1}, false, false},
		{"no Once", api.Hello{Identity: key, Prekey: 1}, true, false},
		{"no Prekey", api.Hello{Identity: key, Once: key}, false, false},
		{"all", api.Hello{Identity: key, Once: key, Prekey: 1}, true, false},
		{"the Identity's first bit", api.Hello{Identity: api.Key{0: 0x80}, Prekey: 1}, true, false},
		{"the Identity's last bit", api.Hello{Identity: api.Key{31: 1}, Prekey: 1}, true, false},
		{"the Once's last bit alone", api.Hello{Once: api.Key{31: 1}}, false, false},
		{"the greatest Prekey", api.Hello{Identity: key, Prekey: math.MaxUint32}, true, false},
		{"a Prekey whose low bytes are 0", api.Hello{Identity: key, Prekey: 1 << 31}, true, false},
		{"a Prekey whose low bytes are 0, alone", api.Hello{Prekey: 1 << 31}, false, false},
		{"Identity and Once alike", api.Hello{Identity: key, Once: key, Prekey: 9}, true, false},
	}
}

// P14.3: which hello a packet of which kind may have.
func TestPackHellos(t *testing.T) {
	for _, c := range helloCases() {
		p, q := first(40), plain(40)
		p.Hello, q.Hello = c.hello, c.hello
		for _, x := range []struct {
			p     api.Packet
			right bool
		}{{p, c.first}, {q, c.plain}} {
			what := fmt.Sprintf("Kind %d: %s", x.p.Kind, c.what)
			if x.right {
				isPacked(t, what, x.p, wordsBytes(x.p), 0)
			} else {
				isPacked(t, what, x.p, nil, 141)
			}
		}
	}
}

// P14.3: bodies that are too short and too long, also such as would have another length in two bytes.
func TestPackBodies(t *testing.T) {
	for n := range 32 {
		isPacked(t, fmt.Sprintf("Plain with %d bytes", n), plain(n), nil, 10)
		isPacked(t, fmt.Sprintf("First with %d bytes", n), first(n), nil, 10)
	}
	for _, n := range []int{545, 546, 1000, 65535, 65536, 65536 + 32, 65536 + 544, 1 << 20, 1<<20 + 40} {
		isPacked(t, fmt.Sprintf("Plain with %d bytes", n), plain(n), nil, 5)
		isPacked(t, fmt.Sprintf("First with %d bytes", n), first(n), nil, 5)
	}
	p := plain(0)
	p.Body = nil
	isPacked(t, "no body", p, nil, 10)
}

// P14.3: of several faults the one that is named first.
func TestPackOrder(t *testing.T) {
	for _, n := range []int{0, 31, 40, 545} {
		wrongHello := first(n)
		wrongHello.Hello.Prekey = 0
		isPacked(t, fmt.Sprintf("hello and %d bytes", n), wrongHello, nil, 141)
		withHello := plain(n)
		withHello.Hello.Prekey = 1
		isPacked(t, fmt.Sprintf("a hello too many and %d bytes", n), withHello, nil, 141)
		wrongHello.Kind = 0
		isPacked(t, fmt.Sprintf("kind, hello and %d bytes", n), wrongHello, nil, 103)
		withHello.Kind = 3
		isPacked(t, fmt.Sprintf("a bundle's kind, hello and %d bytes", n), withHello, nil, 103)
	}
}

// P14.3: nothing is asked of a packet's header.
func TestPackAnyHeader(t *testing.T) {
	for _, h := range []api.Header{{}, {Turn: math.MaxUint32, Prev: math.MaxUint32, N: math.MaxUint32}, {Key: api.Key{1}}, {Sid: api.Sid{15: 1}}} {
		for _, p := range []api.Packet{plain(32), first(32)} {
			p.Header = h
			isPacked(t, "any header", p, wordsBytes(p), 0)
		}
	}
}

// P14.3: drawn packets, held against the chapter's words.
func TestPackDrawn(t *testing.T) {
	r := rand.New(rand.NewSource(2))
	for n := range 5000 {
		p := drawnPacket(r)
		want, e := wordsPack(p)
		isPacked(t, fmt.Sprintf("draw %d", n), p, want, e)
	}
}
