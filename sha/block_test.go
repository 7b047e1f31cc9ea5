package sha_test

import (
	"crypto/sha256"
	"encoding/binary"
	"math/big"
	"math/rand"
	"testing"

	"lethe/sha"
)

// root: the first 32 bits of the fractional part of n's root of that degree.
func root(n int64, degree int) uint32 {
	low, high := big.NewInt(0), big.NewInt(1<<45)
	power := new(big.Int).Lsh(big.NewInt(n), uint(32*degree))
	for new(big.Int).Sub(high, low).Cmp(big.NewInt(1)) > 0 {
		middle := new(big.Int).Rsh(new(big.Int).Add(low, high), 1)
		if new(big.Int).Exp(middle, big.NewInt(int64(degree)), nil).Cmp(power) <= 0 {
			low = middle
		} else {
			high = middle
		}
	}
	return uint32(low.Uint64())
}

func primes(n int) []int64 {
	var list []int64
	for p := int64(2); len(list) < n; p++ {
		if big.NewInt(p).ProbablyPrime(20) {
			list = append(list, p)
		}
	}
	return list
}

// firstState: the chapter's H0, worked out of its definition.
func firstState() (state [8]uint32) {
	for i, p := range primes(8) {
		state[i] = root(p, 2)
	}
	return state
}

// model: the chapter's function, from its words, with its constants worked out.
type model struct{ k [64]uint32 }

func newModel() (m model) {
	for t, p := range primes(64) {
		m.k[t] = root(p, 3)
	}
	return m
}

func rotr(n uint, x uint32) uint32 { return x>>n | x<<(32-n) }

func (m model) compress(state [8]uint32, block [64]byte) [8]uint32 {
	var w [64]uint32
	for t := range w {
		if t < 16 {
			w[t] = binary.BigEndian.Uint32(block[4*t:])
			continue
		}
		x, y := w[t-15], w[t-2]
		w[t] = rotr(17, y) ^ rotr(19, y) ^ y>>10
		w[t] += w[t-7]
		w[t] += rotr(7, x) ^ rotr(18, x) ^ x>>3
		w[t] += w[t-16]
	}
	v := state
	for t := range 64 {
		a, b, c, e, f, g := v[0], v[1], v[2], v[4], v[5], v[6]
		t1 := v[7]
		t1 += rotr(6, e) ^ rotr(11, e) ^ rotr(25, e)
		t1 += (e & f) ^ (^e & g)
		t1 += m.k[t] + w[t]
		t2 := rotr(2, a) ^ rotr(13, a) ^ rotr(22, a)
		t2 += (a & b) ^ (a & c) ^ (b & c)
		v = [8]uint32{t1 + t2, a, b, c, v[3] + t1, e, f, g}
	}
	for i := range v {
		v[i] += state[i]
	}
	return v
}

// padded: the padded message, cut into blocks.
func padded(m []byte) (blocks [][64]byte) {
	p := append(append([]byte(nil), m...), 0x80)
	for len(p)%64 != 56 {
		p = append(p, 0)
	}
	p = binary.BigEndian.AppendUint64(p, 8*uint64(len(m)))
	for ; len(p) > 0; p = p[64:] {
		blocks = append(blocks, [64]byte(p))
	}
	return blocks
}

// The chapter's first and last constants: the model that the tests below lean on is the chapter's.
func TestModelsConstants(t *testing.T) {
	m, h := newModel(), firstState()
	if m.k[0] != 0x428a2f98 || m.k[1] != 0x71374491 || m.k[63] != 0xc67178f2 || h[0] != 0x6a09e667 || h[7] != 0x5be0cd19 {
		t.Errorf("the constants: %08x, %08x", m.k, h)
	}
}

// P2.3: any state, any block.
func TestCompress(t *testing.T) {
	m := newModel()
	var zeros, ones [8]uint32
	var empty, full [64]byte
	for i := range ones {
		ones[i] = 1<<32 - 1
	}
	for i := range full {
		full[i] = 0xff
	}
	states := [][8]uint32{zeros, ones, firstState()}
	blocks := [][64]byte{empty, full}
	random := rand.New(rand.NewSource(3))
	for range 40 {
		var state [8]uint32
		for i := range state {
			state[i] = random.Uint32()
		}
		states = append(states, state)
		var block [64]byte
		random.Read(block[:])
		blocks = append(blocks, block)
	}
	for _, state := range states {
		for _, block := range blocks {
			handedState, handedBlock := state, block
			if got, want := sha.Compress(handedState, handedBlock), m.compress(state, block); got != want {
				t.Fatalf("Compress(%08x, %x): %08x, want %08x", state, block, got, want)
			}
			if handedState != state || handedBlock != block {
				t.Fatalf("Compress has changed what it was handed")
			}
		}
	}
}

// P2.3: each word of a state and each byte of a block counts in its own place.
func TestCompressSeesEveryBit(t *testing.T) {
	m := newModel()
	for bit := range 512 {
		var block [64]byte
		block[bit/8] = 1 << (bit % 8)
		if sha.Compress(firstState(), block) != m.compress(firstState(), block) {
			t.Errorf("a block whose bit %d alone is 1", bit)
		}
	}
	for bit := range 256 {
		var state [8]uint32
		state[bit/32] = 1 << (bit % 32)
		if sha.Compress(state, [64]byte{}) != m.compress(state, [64]byte{}) {
			t.Errorf("a state whose bit %d alone is 1", bit)
		}
	}
}

// P2.3: the same answer to the same question, whatever was hashed between.
func TestCompressKeepsNothing(t *testing.T) {
	block := [64]byte{0x80}
	one := sha.Compress(firstState(), block)
	h := sha.New()
	h.Write(someBytes(1000))
	h.Sum()
	if two := sha.Compress(firstState(), block); one != two {
		t.Errorf("Compress twice: %08x, %08x", one, two)
	}
}

// P2.7: of every length up to some blocks, whole and in a Hash.
func TestSumIsTheBlocks(t *testing.T) {
	for n := range 400 {
		message := someBytes(n)
		state := firstState()
		for _, block := range padded(message) {
			state = sha.Compress(state, block)
		}
		var want [32]byte
		for i, word := range state {
			binary.BigEndian.PutUint32(want[4*i:], word)
		}
		h := sha.New()
		h.Write(message)
		if sha.Sum(message) != want || h.Sum() != want {
			t.Errorf("Sum of %d bytes is not its blocks'", n)
		}
		if want != sha256.Sum256(message) {
			t.Errorf("the blocks of %d bytes, one Compress behind the other: %x", n, want)
		}
	}
}
