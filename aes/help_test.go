package aes_test

import (
	"bytes"
	stdaes "crypto/aes"
	"crypto/cipher"
	"encoding/hex"
	"math/big"
	"math/rand"
	"testing"

	"lethe/aes"
	"lethe/api"
)

const (
	counting = "000102030405060708090a0b0c0d0e0f101112131415161718191a1b1c1d1e1f"
	other    = "603deb1015ca71be2b73aef0857d77811f352c073b6108d72d9810a30914dff4"
)

// textEdges: lengths of texts around the blocks' seams.
var textEdges = []int{0, 1, 15, 16, 17, 31, 32, 33, 48, 100, 1000}

func unhex(t *testing.T, s string) []byte {
	t.Helper()
	b, err := hex.DecodeString(s)
	if err != nil {
		t.Fatal(err)
	}
	return b
}

func unhexBlock(t *testing.T, s string) [16]byte {
	t.Helper()
	return [16]byte(unhex(t, s))
}

// made: the cipher of a key that must be taken.
func made(t *testing.T, key []byte) *aes.Cipher {
	t.Helper()
	c, e := aes.New(key)
	if c == nil || e != api.OK {
		t.Fatalf("New(%x): cipher %v, error %d", key, c != nil, e)
	}
	return c
}

// joined: new memory, whatever room lies behind the parts.
func joined(parts ...[]byte) []byte { return bytes.Join(parts, nil) }

// added: byte by byte.
func added(a, b []byte) []byte {
	out := make([]byte, len(a))
	for i := range a {
		out[i] = a[i] ^ b[i]
	}
	return out
}

func someBytes(random *rand.Rand, n int) []byte {
	b := make([]byte, n)
	random.Read(b)
	return b
}

func someBlock(random *rand.Rand) [16]byte { return [16]byte(someBytes(random, 16)) }

// roomy: bytes with spare room behind them that is not zero.
func roomy(b []byte) []byte {
	return joined(b, bytes.Repeat([]byte{0xee}, 100))[:len(b)]
}

// whole: a list with its spare room.
func whole(b []byte) []byte { return b[:cap(b)] }

// keys: those at which all is tried: the chapter's, the edges of each byte, some others.
func keys(t *testing.T) [][]byte {
	t.Helper()
	out := [][]byte{unhex(t, counting), unhex(t, other), make([]byte, 32), bytes.Repeat([]byte{0xff}, 32)}
	random := rand.New(rand.NewSource(4))
	for range 30 {
		out = append(out, someBytes(random, 32))
	}
	for at := range 32 {
		one := make([]byte, 32)
		one[at] = 0x80
		out = append(out, one)
	}
	return out
}

// libraryBlock: the library's word for a block's encryption, as a second opinion.
func libraryBlock(t *testing.T, key []byte) cipher.Block {
	t.Helper()
	b, err := stdaes.NewCipher(key)
	if err != nil {
		t.Fatal(err)
	}
	return b
}

// libraryStream: the library's counter mode.
func libraryStream(t *testing.T, key []byte, first [16]byte, text []byte) []byte {
	t.Helper()
	out := make([]byte, len(text))
	cipher.NewCTR(libraryBlock(t, key), first[:]).XORKeyStream(out, text)
	return out
}

// modelMul: the whole product of two polynomials, then what is left of it behind a long division by 11b.
func modelMul(a, b byte) byte {
	product := 0
	for k := range 8 {
		if b>>k&1 == 1 {
			product ^= int(a) << k
		}
	}
	for k := 14; k >= 8; k-- {
		if product>>k&1 == 1 {
			product ^= 0x11b << (k - 8)
		}
	}
	return byte(product)
}

// modelBox: S, bit by bit, of an inverse that is searched for.
func modelBox(a byte) byte {
	inverse := byte(0)
	for b := range 256 {
		if modelMul(a, byte(b)) == 1 {
			inverse = byte(b)
		}
	}
	bit := func(of byte, i int) byte { return of >> (i % 8) & 1 }
	var s byte
	for i := range 8 {
		s |= (bit(inverse, i) ^ bit(inverse, i+4) ^ bit(inverse, i+5) ^ bit(inverse, i+6) ^ bit(inverse, i+7) ^ bit(0x63, i)) << i
	}
	return s
}

// modelCipher: the chapter's cipher, from its words, over tables of modelMul and modelBox.
type modelCipher struct {
	box   [256]byte
	words [60][4]byte
}

func newModel(key []byte) *modelCipher {
	m := &modelCipher{}
	for a := range m.box {
		m.box[a] = modelBox(byte(a))
	}
	for i := range 60 {
		if i < 8 {
			m.words[i] = [4]byte(key[4*i:])
			continue
		}
		t := m.words[i-1]
		if i%8 == 0 {
			t = [4]byte{m.box[t[1]], m.box[t[2]], m.box[t[3]], m.box[t[0]]}
			power := byte(1)
			for range i/8 - 1 {
				power = modelMul(power, 2)
			}
			t[0] ^= power
		} else if i%8 == 4 {
			t = [4]byte{m.box[t[0]], m.box[t[1]], m.box[t[2]], m.box[t[3]]}
		}
		m.words[i] = [4]byte(added(m.words[i-8][:], t[:]))
	}
	return m
}

func (m *modelCipher) roundKey(r int) (key []byte) {
	for _, w := range m.words[4*r : 4*r+4] {
		key = append(key, w[:]...)
	}
	return key
}

func (m *modelCipher) encrypt(block [16]byte) [16]byte {
	s := added(block[:], m.roundKey(0))
	for round := 1; round <= 14; round++ {
		for i := range s {
			s[i] = m.box[s[i]]
		}
		was := joined(s)
		for r := range 4 {
			for c := range 4 {
				s[r+4*c] = was[r+4*((c+r)%4)]
			}
		}
		if round < 14 {
			for at := 0; at < 16; at += 4 {
				a, b, c, d := s[at], s[at+1], s[at+2], s[at+3]
				s[at] = modelMul(2, a) ^ modelMul(3, b) ^ c ^ d
				s[at+1] = a ^ modelMul(2, b) ^ modelMul(3, c) ^ d
				s[at+2] = a ^ b ^ modelMul(2, c) ^ modelMul(3, d)
				s[at+3] = modelMul(3, a) ^ b ^ c ^ modelMul(2, d)
			}
		}
		s = added(s, m.roundKey(round))
	}
	return [16]byte(s)
}

// modelNext: the counter as a number, modulo 2^128.
func modelNext(block [16]byte, n uint64) (out [16]byte) {
	sum := new(big.Int).SetBytes(block[:])
	sum.Add(sum, new(big.Int).SetUint64(n))
	sum.Mod(sum, new(big.Int).Lsh(big.NewInt(1), 128))
	sum.FillBytes(out[:])
	return out
}

// stream: P4.6, from its words.
func (m *modelCipher) stream(first [16]byte, text []byte) []byte {
	var stream []byte
	for n := uint64(0); len(stream) < len(text); n++ {
		block := m.encrypt(modelNext(first, n))
		stream = append(stream, block[:]...)
	}
	return added(text, stream)
}
