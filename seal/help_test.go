package seal_test

import (
	"bytes"
	"crypto/aes"
	"crypto/cipher"
	"crypto/hkdf"
	"crypto/hmac"
	"crypto/sha256"
	"encoding/binary"
	"encoding/hex"
	"math/rand"
	"testing"

	"lethe/api"
	"lethe/seal"
)

// textEdges: lengths of texts that are taken: the ends, and around the blocks' seams.
var textEdges = []int{0, 1, 15, 16, 17, 31, 32, 33, 100, 511, 512}

// dataEdges: lengths of data that are taken: the ends, around a hash's block, and where the length's bytes change.
var dataEdges = []int{0, 1, 2, 63, 64, 65, 255, 256, 257, 65534, 65535}

func unhex(t *testing.T, s string) []byte {
	t.Helper()
	b, err := hex.DecodeString(s)
	if err != nil {
		t.Fatal(err)
	}
	return b
}

// joined: new memory, whatever room lies behind the parts.
func joined(parts ...[]byte) []byte { return bytes.Join(parts, nil) }

// added: byte by byte, as far as both reach.
func added(a, b []byte) []byte {
	out := make([]byte, min(len(a), len(b)))
	for i := range out {
		out[i] = a[i] ^ b[i]
	}
	return out
}

// turned: a copy with some bits of one byte turned.
func turned(b []byte, at int, mask byte) []byte {
	out := joined(b)
	out[at] ^= mask
	return out
}

// someBytes: so many, which hang on their number alone, none of them 0: zeros behind them are told apart.
func someBytes(n int) []byte {
	random := rand.New(rand.NewSource(int64(n)))
	b := make([]byte, n)
	for i := range b {
		b[i] = byte(1 + random.Intn(255))
	}
	return b
}

// keys: those at which all is tried: the chapter's, the edges of each byte, some others.
func keys() []api.Key {
	out := []api.Key{
		{},
		api.Key(bytes.Repeat([]byte{0x01}, 32)),
		api.Key(bytes.Repeat([]byte{0xff}, 32)),
		{0: 0x80},
		{31: 0x01},
	}
	random := rand.New(rand.NewSource(5))
	for range 5 {
		var key api.Key
		random.Read(key[:])
		out = append(out, key)
	}
	return out
}

// whole: a list with its spare room.
func whole(b []byte) []byte { return b[:cap(b)] }

// roomy: bytes with spare room behind them that is not zero.
func roomy(b []byte) []byte {
	return joined(b, bytes.Repeat([]byte{0xee}, 100))[:len(b)]
}

// model: the three keys of P5.2, by the library's HKDF.
type model struct {
	cipherKey, tagKey, first []byte
}

func newModel(t *testing.T, key api.Key) model {
	t.Helper()
	all, err := hkdf.Key(sha256.New, key[:], make([]byte, 32), "lethe seal", 80)
	if err != nil {
		t.Fatal(err)
	}
	return model{all[:32], all[32:64], all[64:]}
}

// stream: P5.4's cipher bytes, by the library's AES.
func (m model) stream(t *testing.T, text []byte) []byte {
	t.Helper()
	block, err := aes.NewCipher(m.cipherKey)
	if err != nil {
		t.Fatal(err)
	}
	out := make([]byte, len(text))
	cipher.NewCTR(block, m.first).XORKeyStream(out, text)
	return out
}

// tag: P5.3, by the library's HMAC.
func (m model) tag(data, hidden []byte) []byte {
	mac := hmac.New(sha256.New, m.tagKey)
	mac.Write(joined(data, hidden, binary.BigEndian.AppendUint64(nil, uint64(len(data)))))
	return mac.Sum(nil)
}

// tagged: hidden bytes with the tag that belongs to them, of any length.
func (m model) tagged(data, hidden []byte) []byte { return joined(hidden, m.tag(data, hidden)) }

// sealed: what the library's parts make of a text of any length.
func (m model) sealed(t *testing.T, data, text []byte) []byte {
	t.Helper()
	return m.tagged(data, m.stream(t, text))
}

// sealed: of a text that must be taken.
func sealed(t *testing.T, key api.Key, data, text []byte) []byte {
	t.Helper()
	s, e := seal.Seal(key, data, text)
	if e != api.OK {
		t.Fatalf("Seal of %d bytes with %d of data: error %d", len(text), len(data), e)
	}
	return s
}

func wantBytes(t *testing.T, what string, got []byte, e api.Errno, want []byte) {
	t.Helper()
	if e != api.OK || !bytes.Equal(got, want) {
		t.Fatalf("%s: %x, error %d, want %x", what, got, e, want)
	}
}

func wantRefusal(t *testing.T, what string, got []byte, e, want api.Errno) {
	t.Helper()
	if len(got) != 0 || e != want {
		t.Fatalf("%s: %x, error %d, want no bytes and %d", what, got, e, want)
	}
}
