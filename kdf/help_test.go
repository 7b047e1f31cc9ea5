package kdf_test

import (
	"bytes"
	"crypto/sha256"
	"encoding/hex"
	"math/rand"
	"testing"

	"lethe/api"
)

// keyEdges: lengths of keys around that of a block, beyond which a key's hash stands for it.
var keyEdges = []int{0, 1, 31, 32, 33, 63, 64, 65, 127, 128, 129, 131, 1000}

// joined: new memory, whatever room lies behind the parts.
func joined(parts ...[]byte) []byte { return bytes.Join(parts, nil) }

func repeated(b byte, n int) []byte { return bytes.Repeat([]byte{b}, n) }

// someBytes: so many, which hang on their number alone, none of them 0: zeros behind them are told apart.
func someBytes(n int) []byte {
	random := rand.New(rand.NewSource(int64(n)))
	b := make([]byte, n)
	for i := range b {
		b[i] = byte(1 + random.Intn(255))
	}
	return b
}

func unhex(t *testing.T, s string) []byte {
	t.Helper()
	b, err := hex.DecodeString(s)
	if err != nil {
		t.Fatal(err)
	}
	return b
}

// modelMac: P3.2, from its words.
func modelMac(key, text []byte) api.Digest {
	k := joined(key)
	if len(k) > 64 {
		digest := sha256.Sum256(k)
		k = digest[:]
	}
	k = joined(k, make([]byte, 64-len(k)))
	i, o := make([]byte, 64), make([]byte, 64)
	for at, b := range k {
		i[at], o[at] = b^0x36, b^0x5c
	}
	inner := sha256.Sum256(joined(i, text))
	return sha256.Sum256(joined(o, inner[:]))
}

// modelExpand: P3.4's T1 | T2 | .. up to T255, from its words.
func modelExpand(prk, info []byte) []byte {
	one := modelMac(prk, joined(info, []byte{1}))
	all := one[:]
	for number := 2; number <= 255; number++ {
		next := modelMac(prk, joined(all[len(all)-32:], info, []byte{byte(number)}))
		all = joined(all, next[:])
	}
	return all
}

func wantDigest(t *testing.T, what string, got, want api.Digest) {
	t.Helper()
	if got != want {
		t.Errorf("%s: %x, want %x", what, got, want)
	}
}

func wantBytes(t *testing.T, what string, got []byte, e api.Errno, want []byte) {
	t.Helper()
	if e != api.OK || !bytes.Equal(got, want) {
		t.Errorf("%s: %x, error %d, want %x", what, got, e, want)
	}
}

func wantRefusal(t *testing.T, what string, length int, e, want api.Errno) {
	t.Helper()
	if length != 0 || e != want {
		t.Errorf("%s: %d answered, error %d, want none and %d", what, length, e, want)
	}
}

// whole: a list with its spare room.
func whole[T any](list []T) []T { return list[:cap(list)] }

// roomy: bytes with spare room behind them that is not zero.
func roomy(b []byte) []byte {
	return joined(b, repeated(0xee, 100))[:len(b)]
}
