package aes_test

import (
	"bytes"
	"math"
	"math/rand"
	"testing"

	"lethe/aes"
)

const firstCounter = "f0f1f2f3f4f5f6f7f8f9fafbfcfdfeff"

// P4.6: the chapter's examples.
func TestExamplesOfAStream(t *testing.T) {
	c, first := made(t, unhex(t, other)), unhexBlock(t, firstCounter)
	text, want := unhex(t, "6bc1bee22e409f96e93d7e117393172a"), unhex(t, "601ec313775789a5b7a7f504bbf3d228")
	if got := c.Stream(first, text); !bytes.Equal(got, want) {
		t.Errorf("Stream = %x, want %x", got, want)
	}
	if got := c.Stream(first, text[:5]); !bytes.Equal(got, want[:5]) {
		t.Errorf("Stream of five bytes = %x, want %x", got, want[:5])
	}
	for _, none := range [][]byte{nil, {}, text[:0]} {
		if got := c.Stream(first, none); len(got) != 0 {
			t.Errorf("Stream of no text = %x", got)
		}
	}
}

// P4.3: the chapter's examples, the carry from each byte into the next, and the way round behind 2^128 - 1.
func TestNext(t *testing.T) {
	full := [16]byte(bytes.Repeat([]byte{0xff}, 16))
	for _, x := range []struct {
		from [16]byte
		n    uint64
		want [16]byte
	}{
		{full, 1, [16]byte{}},
		{full, 0, full},
		{full, 2, [16]byte{15: 1}},
		{full, math.MaxUint64, unhexBlock(t, "0000000000000000fffffffffffffffe")},
		{[16]byte{15: 0xff}, 1, [16]byte{14: 1}},
		{[16]byte{}, math.MaxUint64, unhexBlock(t, "0000000000000000ffffffffffffffff")},
		{[16]byte{}, 1 << 63, [16]byte{8: 0x80}},
		{unhexBlock(t, "0000000000000000ffffffffffffffff"), math.MaxUint64, unhexBlock(t, "0000000000000001fffffffffffffffe")},
		{unhexBlock(t, "ffffffffffffffff0000000000000001"), math.MaxUint64, [16]byte{}},
	} {
		if got := aes.Next(x.from, x.n); got != x.want {
			t.Errorf("Next(%x, %d) = %x, want %x", x.from, x.n, got, x.want)
		}
	}
	for at := 1; at < 16; at++ {
		var from, want [16]byte
		for i := at; i < 16; i++ {
			from[i] = 0xff
		}
		want[at-1] = 1
		if got := aes.Next(from, 1); got != want {
			t.Errorf("Next(%x, 1) = %x, want %x", from, got, want)
		}
	}
}

// P4.3: against sums of whole numbers modulo 2^128.
func TestNextAgainstNumbers(t *testing.T) {
	random := rand.New(rand.NewSource(9))
	counts := []uint64{0, 1, 0x7f, 0x80, 0xff, 0x100, 0xffff, 1 << 32, 1<<32 - 1, 1 << 63, math.MaxInt64, math.MaxUint64 - 1, math.MaxUint64}
	for i := range 3000 {
		block := someBlock(random)
		// Bytes ff are where carries go on.
		for k := range block {
			if random.Intn(2) == 0 {
				block[k] = 0xff
			}
		}
		n := random.Uint64() >> random.Intn(64)
		if i < len(counts) {
			n = counts[i]
		}
		if got, want := aes.Next(block, n), modelNext(block, n); got != want {
			t.Fatalf("Next(%x, %d) = %x, want %x", block, n, got, want)
		}
	}
}

// counters: those from which a stream is tried: the last ones have a carry, or the way round, within the next blocks.
func counters(t *testing.T) [][16]byte {
	t.Helper()
	return [][16]byte{
		{},
		unhexBlock(t, firstCounter),
		unhexBlock(t, "000000000000000000000000000000ff"),
		unhexBlock(t, "0000000000000000fffffffffffffffe"),
		unhexBlock(t, "fffffffffffffffffffffffffffffffe"),
		unhexBlock(t, "ffffffffffffffffffffffffffffffff"),
	}
}

// P4.6: as many bytes as the text has, those that the chapter's words and the library say; done twice it is the text again.
func TestStreamAgainstTheModel(t *testing.T) {
	random := rand.New(rand.NewSource(10))
	for _, key := range keys(t)[:8] {
		c, model := made(t, key), newModel(key)
		for _, first := range counters(t) {
			for _, n := range textEdges {
				text := someBytes(random, n)
				got := c.Stream(first, text)
				if want := model.stream(first, text); !bytes.Equal(got, want) {
					t.Fatalf("key %x from %x, %d bytes: %x, want %x", key, first, n, got, want)
				}
				if want := libraryStream(t, key, first, text); !bytes.Equal(got, want) {
					t.Fatalf("key %x from %x, %d bytes: %x, the library %x", key, first, n, got, want)
				}
				if back := c.Stream(first, got); !bytes.Equal(back, text) {
					t.Fatalf("key %x from %x, %d bytes: back to %x", key, first, n, back)
				}
			}
		}
	}
}

// P4.6: behind 2^128 - 1 comes 0.
func TestStreamGoesRound(t *testing.T) {
	c := made(t, unhex(t, other))
	full := [16]byte(bytes.Repeat([]byte{0xff}, 16))
	a, b, d := c.Encrypt(full), c.Encrypt([16]byte{}), c.Encrypt([16]byte{15: 1})
	if got := c.Stream(full, make([]byte, 48)); !bytes.Equal(got, joined(a[:], b[:], d[:])) {
		t.Errorf("Stream from ff..ff = %x", got)
	}
}

// P4.9: a stream that is cut between two blocks goes on, from Next on, as if it had not been cut.
func TestStreamHasNoSeams(t *testing.T) {
	random := rand.New(rand.NewSource(11))
	c := made(t, unhex(t, counting))
	for _, first := range counters(t) {
		for _, n := range textEdges {
			text := someBytes(random, n)
			all := c.Stream(first, text)
			for k := 0; 16*k <= n; k++ {
				parts := joined(c.Stream(first, text[:16*k]), c.Stream(aes.Next(first, uint64(k)), text[16*k:]))
				if !bytes.Equal(parts, all) {
					t.Fatalf("from %x, %d bytes cut behind %d blocks: %x, want %x", first, n, k, parts, all)
				}
			}
		}
	}
}

// P4.9: what is added to the text is added to the answer.
func TestStreamAddsUp(t *testing.T) {
	random := rand.New(rand.NewSource(12))
	c := made(t, unhex(t, counting))
	for _, first := range counters(t) {
		for _, n := range textEdges {
			a, b := someBytes(random, n), someBytes(random, n)
			got, want := c.Stream(first, added(a, b)), added(c.Stream(first, a), b)
			if !bytes.Equal(got, want) {
				t.Fatalf("from %x, %d bytes: %x, want %x", first, n, got, want)
			}
		}
	}
}

// P4.1: a text is neither changed nor written behind.
func TestTextIsNotChanged(t *testing.T) {
	random := rand.New(rand.NewSource(13))
	c := made(t, unhex(t, counting))
	for _, n := range textEdges {
		text := roomy(someBytes(random, n))
		before := joined(whole(text))
		out := c.Stream([16]byte{}, text)
		for i := range whole(out) {
			whole(out)[i] = 0xaa
		}
		_ = append(out, 1, 2, 3)
		if !bytes.Equal(whole(text), before) {
			t.Errorf("%d bytes: the text and its room are %x, want %x", n, whole(text), before)
		}
	}
}

// P4.1: a text that shares an array with the key, in either order, or is the key itself.
func TestTextBesideTheKey(t *testing.T) {
	random := rand.New(rand.NewSource(14))
	first := unhexBlock(t, firstCounter)
	for _, n := range textEdges {
		array := someBytes(random, n+64)
		before := joined(array)
		for _, x := range []struct{ key, text []byte }{
			{array[:32], array[32 : 32+n]},
			{array[n : n+32], array[:n]},
			{array[:32], array[16 : 16+n]},
			{array[:32], array[:min(n, 32)]},
		} {
			want := libraryStream(t, x.key, first, x.text)
			got := made(t, x.key).Stream(first, x.text)
			if !bytes.Equal(got, want) || !bytes.Equal(array, before) {
				t.Fatalf("%d bytes: Stream = %x, want %x, the array %x, want %x", n, got, want, array, before)
			}
		}
	}
}

// P4.1: answers are new memory, spare room too: no two share any, and none holds more of the stream than was asked for.
func TestStreamsAreNewMemory(t *testing.T) {
	random := rand.New(rand.NewSource(15))
	c := made(t, unhex(t, other))
	first := unhexBlock(t, firstCounter)
	for _, n := range textEdges {
		text := someBytes(random, n)
		one, two := c.Stream(first, text), c.Stream(first, text)
		want := joined(two)
		for i, b := range whole(one)[n:] {
			if b != 0 {
				t.Errorf("%d bytes: byte %d of the spare room is %02x", n, i, b)
			}
		}
		for i := range whole(one) {
			whole(one)[i] ^= 0xff
		}
		_ = append(one, 1, 2, 3)
		if !bytes.Equal(two, want) || !bytes.Equal(c.Stream(first, text), want) {
			t.Errorf("%d bytes: what a caller wrote into an answer is seen", n)
		}
	}
}
