package sha_test

import (
	"bytes"
	"crypto/sha256"
	"encoding/hex"
	"math/rand"
	"testing"

	"lethe/api"
	"lethe/sha"
)

// The chapter's examples.
const (
	ofNothing = "e3b0c44298fc1c149afbf4c8996fb92427ae41e4649b934ca495991b7852b855"
	ofABC     = "ba7816bf8f01cfea414140de5dae2223b00361a396177a9cb410ff61f20015ad"
	of56      = "248d6a61d20638b8e5c026930c3e6039a33ce45964ff2167f6ecedd419db06c1"
	ofMillion = "cdc76e5c9914fb9281a1c7e284d73e67f1809a48a497200e046d39ccc7112cd0"

	text56 = "abcdbcdecdefdefgefghfghighijhijkijkljklmklmnlmnomnopnopq"
)

// edges: lengths around those at which a block ends, and at which the padding needs one block more.
var edges = []int{0, 1, 55, 56, 57, 63, 64, 65, 119, 120, 121, 127, 128, 129, 183, 184, 191, 192, 193}

func wantDigest(t *testing.T, what string, got api.Digest, want string) {
	t.Helper()
	if is := hex.EncodeToString(got[:]); is != want {
		t.Errorf("%s: %s, want %s", what, is, want)
	}
}

// wantHash: both of what a Hash tells, asked twice, because asking changes nothing.
func wantHash(t *testing.T, what string, h *sha.Hash, m []byte) {
	t.Helper()
	for range 2 {
		if got := h.Sum(); got != sha256.Sum256(m) {
			t.Errorf("%s: Sum: %x, want that of %d bytes", what, got, len(m))
		}
		if got := h.Len(); got != len(m) {
			t.Errorf("%s: Len: %d, want %d", what, got, len(m))
		}
	}
}

// someBytes: so many, which hang on their number alone.
func someBytes(n int) []byte {
	b := make([]byte, n)
	rand.New(rand.NewSource(int64(n))).Read(b)
	return b
}

// pieces: m cut at random, with empty pieces between.
func pieces(random *rand.Rand, m []byte, most int) [][]byte {
	var list [][]byte
	for len(m) > 0 {
		n := min(random.Intn(most+1), len(m))
		list = append(list, m[:n])
		m = m[n:]
	}
	return append(list, nil)
}

// P2.2
func TestSumExamples(t *testing.T) {
	wantDigest(t, "no parts", sha.Sum(), ofNothing)
	wantDigest(t, "nil", sha.Sum(nil), ofNothing)
	wantDigest(t, "parts without bytes", sha.Sum([]byte{}, nil, []byte{}), ofNothing)
	wantDigest(t, "abc", sha.Sum([]byte("abc")), ofABC)
	wantDigest(t, "a, nothing, bc", sha.Sum([]byte("a"), nil, []byte("bc")), ofABC)
	wantDigest(t, "nothing, ab, c, nothing", sha.Sum([]byte{}, []byte("ab"), []byte("c"), nil), ofABC)
	wantDigest(t, "56 bytes", sha.Sum([]byte(text56)), of56)
	wantDigest(t, "a million times a", sha.Sum(bytes.Repeat([]byte("a"), 1000000)), ofMillion)
}

// P2.2: every length up to some blocks, of unlike bytes, of zeros and of ones.
func TestSumOfEveryLength(t *testing.T) {
	for n := range 400 {
		for _, m := range [][]byte{someBytes(n), make([]byte, n), bytes.Repeat([]byte{0xff}, n)} {
			if sha.Sum(m) != sha256.Sum256(m) {
				t.Errorf("Sum of %d bytes, %x", n, m)
			}
		}
	}
}

// P2.2: parts stand one behind the other, in their order.
func TestSumOrder(t *testing.T) {
	a, b := someBytes(70), someBytes(59)
	if got := sha.Sum(a, b); got != sha256.Sum256(append(bytes.Clone(a), b...)) {
		t.Errorf("Sum(a, b): %x", got)
	}
	if got := sha.Sum(b, a); got != sha256.Sum256(append(bytes.Clone(b), a...)) {
		t.Errorf("Sum(b, a): %x", got)
	}
}

// P2.6
func TestSumSeesNoPieces(t *testing.T) {
	random := rand.New(rand.NewSource(6))
	for _, n := range append(edges, 1000, 4096) {
		m := someBytes(n)
		for cut := range min(n, 300) + 1 {
			if sha.Sum(m[:cut], m[cut:]) != sha256.Sum256(m) {
				t.Errorf("Sum of %d bytes, cut at %d", n, cut)
			}
		}
		for _, most := range []int{1, 3, 64, 65, 200} {
			if sha.Sum(pieces(random, m, most)...) != sha256.Sum256(m) {
				t.Errorf("Sum of %d bytes in pieces of at most %d", n, most)
			}
		}
	}
}

// P2.1: parts that lie in one array, one behind the other, overlapping, backwards, with spare room.
func TestSumLeavesItsParts(t *testing.T) {
	for _, n := range edges {
		whole := someBytes(3*n + 8)
		was := bytes.Clone(whole)
		parts := [][]byte{whole[:n], whole[n/2 : n+n/2], whole[2*n : 3*n], whole[:n], whole[n : 2*n : 2*n]}
		list := append([][]byte(nil), parts...)
		var joined []byte
		for _, part := range parts {
			joined = append(joined, part...)
		}
		if sha.Sum(parts...) != sha256.Sum256(joined) {
			t.Errorf("Sum of parts of %d bytes in one array", n)
		}
		if !bytes.Equal(whole, was) {
			t.Errorf("Sum of parts of %d bytes has changed what it was handed", n)
		}
		for i := range parts {
			if len(parts[i]) != len(list[i]) || len(list[i]) > 0 && &parts[i][0] != &list[i][0] {
				t.Errorf("Sum of parts of %d bytes has changed the list of parts", n)
			}
		}
	}
}

// P2.4
func TestNew(t *testing.T) {
	h := sha.New()
	wantHash(t, "New", h, nil)
	wantDigest(t, "New", h.Sum(), ofNothing)
	h.Write(nil)
	h.Write([]byte{})
	wantHash(t, "behind a Write of nothing", h, nil)
}

// P2.4: the chapter's calls.
func TestHashExample(t *testing.T) {
	h := sha.New()
	h.Write([]byte("ab"))
	wantHash(t, "ab", h, []byte("ab"))
	h.Write([]byte("c"))
	wantHash(t, "abc", h, []byte("abc"))
	wantDigest(t, "abc", h.Sum(), ofABC)
	k := h.Copy()
	h.Wipe()
	wantDigest(t, "the wiped one", h.Sum(), ofNothing)
	wantDigest(t, "its copy", k.Sum(), ofABC)
	wantHash(t, "the wiped one", h, nil)
	wantHash(t, "its copy", k, []byte("abc"))
}

// P2.4, P2.6: in pieces of many lengths, asked behind each one.
func TestWriteInPieces(t *testing.T) {
	m := someBytes(700)
	for _, step := range []int{1, 2, 7, 31, 32, 33, 55, 56, 63, 64, 65, 119, 120, 128, 129, 300, 700} {
		h := sha.New()
		for at := 0; at < len(m); {
			next := min(at+step, len(m))
			h.Write(m[at:next])
			at = next
			wantHash(t, "in pieces", h, m[:at])
		}
	}
}

// P2.4, P2.6: from each length to each other one, asked on the way and not asked.
func TestWriteFromEdgeToEdge(t *testing.T) {
	m := someBytes(600)
	for _, first := range edges {
		for _, second := range edges {
			asked, unasked := sha.New(), sha.New()
			asked.Write(m[:first])
			unasked.Write(m[:first])
			wantHash(t, "the first piece", asked, m[:first])
			asked.Write(nil)
			asked.Write(m[first : first+second])
			unasked.Write(m[first : first+second])
			wantHash(t, "asked on the way", asked, m[:first+second])
			wantHash(t, "not asked", unasked, m[:first+second])
		}
	}
}

// P2.6
func TestWriteInRandomPieces(t *testing.T) {
	random := rand.New(rand.NewSource(26))
	for n := range 200 {
		m := someBytes(n * 9)
		h := sha.New()
		for _, piece := range pieces(random, m, 1+random.Intn(150)) {
			h.Write(piece)
		}
		wantHash(t, "random pieces", h, m)
	}
}

// P2.1: neither changed nor kept, spare room too.
func TestWriteLeavesAndKeepsNothing(t *testing.T) {
	for _, n := range edges {
		m := someBytes(n)
		handed := append(bytes.Clone(m), 1, 2, 3)
		was := bytes.Clone(handed)
		h := sha.New()
		h.Write(handed[:n])
		h.Sum()
		if !bytes.Equal(handed, was) {
			t.Errorf("Write of %d bytes has changed what it was handed", n)
		}
		clear(handed)
		wantHash(t, "behind a change of what was handed in", h, m)
		h.Write(m)
		wantHash(t, "gone on behind it", h, append(bytes.Clone(m), m...))
	}
}

// P2.5, P2.1: a copy and the one that it was made of go on by themselves.
func TestCopy(t *testing.T) {
	m, a, b := someBytes(300), bytes.Repeat([]byte("a"), 200), bytes.Repeat([]byte("b"), 201)
	for _, n := range edges {
		h := sha.New()
		h.Write(m[:n])
		k := h.Copy()
		wantHash(t, "a copy", k, m[:n])
		h.Write(a)
		wantHash(t, "a copy, when the first one has gone on", k, m[:n])
		k.Write(b)
		wantHash(t, "the first one", h, append(bytes.Clone(m[:n]), a...))
		wantHash(t, "the copy", k, append(bytes.Clone(m[:n]), b...))
		l := k.Copy()
		k.Wipe()
		wantHash(t, "a copy's copy", l, append(bytes.Clone(m[:n]), b...))
		wantHash(t, "the first one, when its copy is wiped", h, append(bytes.Clone(m[:n]), a...))
	}
}

// P2.5: a wiped one goes on as a new one.
func TestWipe(t *testing.T) {
	m := someBytes(200)
	for _, n := range edges {
		for _, next := range edges {
			h := sha.New()
			h.Write(bytes.Repeat([]byte{0xff}, n))
			h.Wipe()
			wantHash(t, "a wiped one", h, nil)
			h.Write(m[:next])
			wantHash(t, "a wiped one that has gone on", h, m[:next])
		}
	}
	h := sha.New()
	h.Wipe()
	h.Wipe()
	wantHash(t, "a new one, wiped twice", h, nil)
}

// P2.1: many at once, each written in turn.
func TestHashesKnowNothingOfOneAnother(t *testing.T) {
	hashes := make([]*sha.Hash, 9)
	written := make([][]byte, len(hashes))
	for i := range hashes {
		hashes[i] = sha.New()
	}
	random := rand.New(rand.NewSource(21))
	for range 500 {
		i, j := random.Intn(len(hashes)), random.Intn(len(hashes))
		switch random.Intn(8) {
		case 0:
			hashes[i], written[i] = hashes[j].Copy(), bytes.Clone(written[j])
		case 1:
			hashes[i].Wipe()
			written[i] = nil
		default:
			b := make([]byte, random.Intn(100))
			random.Read(b)
			hashes[i].Write(b)
			written[i] = append(written[i], b...)
		}
		for k := range hashes {
			wantHash(t, "one of many", hashes[k], written[k])
		}
	}
}

// P2.1, P2.4: the digest that was answered is the caller's.
func TestDigestIsNew(t *testing.T) {
	h := sha.New()
	h.Write([]byte("abc"))
	d := h.Sum()
	clear(d[:])
	wantDigest(t, "behind a change of what was answered", h.Sum(), ofABC)
}

// P2.2, P2.4: from 2^29 bytes on the number of bits needs more than 32 bits itself.
func TestMoreThan32BitsOfLength(t *testing.T) {
	if testing.Short() {
		t.Skip("half a gigabyte")
	}
	piece := someBytes(1 << 20)
	h, want := sha.New(), sha256.New()
	for range 1<<9 + 1 {
		h.Write(piece)
		want.Write(piece)
	}
	got := h.Sum()
	if !bytes.Equal(got[:], want.Sum(nil)) || h.Len() != 1<<29+1<<20 {
		t.Errorf("%d bytes: %x, want %x", h.Len(), got, want.Sum(nil))
	}
}
