package kdf_test

import (
	"bytes"
	"crypto/hmac"
	"crypto/sha256"
	"math/rand"
	"slices"
	"strconv"
	"testing"

	"lethe/api"
	"lethe/kdf"
)

// P3.2: the chapter's examples.
func TestMacExamples(t *testing.T) {
	for _, c := range []struct {
		what  string
		key   []byte
		parts []string
		want  string
	}{
		{"no key and no parts", nil, nil, "b613679a0814d9ec772f95d778c35fc5ff1697c493715653c6c712144292c5ad"},
		{"0b*20", repeated(0x0b, 20), []string{"Hi There"}, "b0344c61d8db38535ca8afceaf0bf12b881dc200c9833da726e9376c2e32cff7"},
		{"Jefe", []byte("Jefe"), []string{"what do ya want ", "for nothing?"}, "5bdcc146bf60754e6a042426089575c75a003f089d2739839dec58b964ec3843"},
		{"aa*131", repeated(0xaa, 131), []string{"Test Using Larger Than Block-Size Key - Hash Key First"}, "60e431591ee0b67f0d8a26aacbf5b77f8e0bc6213728c5140546040f0ee37f54"},
		{"aa*64", repeated(0xaa, 64), []string{"x"}, "ce3c639dcb9d8baae5d44c3b8b5e233faab4d1860e07489af5c84f213998bd79"},
		{"aa*65", repeated(0xaa, 65), []string{"x"}, "c2b9a0a013df029c7d812c5ac18388feef0194ee64fcc5f321d149c06137caa3"},
	} {
		var parts [][]byte
		for _, part := range c.parts {
			parts = append(parts, []byte(part))
		}
		wantDigest(t, c.what, kdf.Mac(c.key, parts...), api.Digest(unhex(t, c.want)))
	}
}

// P3.2: keys of all lengths around a block's, texts around the hash's edges; against the chapter's words, and against another's HMAC.
func TestMacOfLengths(t *testing.T) {
	for _, k := range keyEdges {
		for _, n := range []int{0, 1, 31, 32, 55, 56, 63, 64, 65, 119, 120, 128, 500} {
			what := strconv.Itoa(k) + " bytes of key, " + strconv.Itoa(n) + " of text"
			key, text := someBytes(k), someBytes(n)
			got := kdf.Mac(key, text)
			wantDigest(t, what, got, modelMac(key, text))
			other := hmac.New(sha256.New, key)
			other.Write(text)
			wantDigest(t, what+" (crypto/hmac)", got, api.Digest(other.Sum(nil)))
		}
	}
}

// P3.2: each byte of a key and of a text counts in its own place.
func TestMacSeesEveryByte(t *testing.T) {
	for at := range 70 {
		key, text := make([]byte, 70), make([]byte, 70)
		key[at] = 1
		wantDigest(t, "a long key's byte "+strconv.Itoa(at), kdf.Mac(key, text), modelMac(key, text))
		if at < 64 {
			wantDigest(t, "a short key's byte "+strconv.Itoa(at), kdf.Mac(key[:64], text), modelMac(key[:64], text))
		}
		clear(key)
		text[at] = 1
		wantDigest(t, "a text's byte "+strconv.Itoa(at), kdf.Mac(key, text), modelMac(key, text))
	}
}

// P3.7, P3.2: no parts, and parts of no bytes, are no text.
func TestMacOfPartsWithoutBytes(t *testing.T) {
	key := someBytes(20)
	want := modelMac(key, nil)
	wantDigest(t, "no parts", kdf.Mac(key), want)
	wantDigest(t, "nil", kdf.Mac(key, nil), want)
	wantDigest(t, "no bytes", kdf.Mac(key, []byte{}), want)
	wantDigest(t, "several of no bytes", kdf.Mac(key, nil, []byte{}, nil), want)
	want = modelMac(key, []byte("abc"))
	wantDigest(t, "no bytes ahead, between and behind", kdf.Mac(key, nil, []byte("a"), nil, []byte{}, []byte("bc"), nil), want)
	wantDigest(t, "a key that is nil", kdf.Mac(nil, []byte("abc")), kdf.Mac([]byte{}, []byte("abc")))
}

// P3.7: parts of any number and lengths are one: their joining, and in that order.
func TestMacDoesNotSeeParts(t *testing.T) {
	random := rand.New(rand.NewSource(7))
	for _, k := range keyEdges {
		key := someBytes(k)
		for number := range 12 {
			var parts [][]byte
			for range number {
				parts = append(parts, someBytes(random.Intn(90)))
			}
			got := kdf.Mac(key, parts...)
			wantDigest(t, "parts against one", got, kdf.Mac(key, joined(parts...)))
			wantDigest(t, "parts against the chapter's words", got, modelMac(key, joined(parts...)))
		}
	}
	text := someBytes(130)
	for cut := range len(text) + 1 {
		wantDigest(t, "cut at "+strconv.Itoa(cut), kdf.Mac(nil, text[:cut], text[cut:]), modelMac(nil, text))
	}
	wantDigest(t, "many parts", kdf.Mac(nil, slices.Repeat([][]byte{{7}}, 5000)...), modelMac(nil, repeated(7, 5000)))
	if kdf.Mac(nil, []byte("a"), []byte("b")) == kdf.Mac(nil, []byte("b"), []byte("a")) {
		t.Error("the parts' order is not seen")
	}
}

// P3.7: a key's end is not seen against zeros up to a block; beyond a block its hash stands for it.
func TestKeysThatAreTheSame(t *testing.T) {
	text := []byte("a text")
	for k := range 65 {
		key := someBytes(k)
		want := kdf.Mac(key, text)
		for n := k; n <= 64; n++ {
			wantDigest(t, "zeros behind a key", kdf.Mac(joined(key, make([]byte, n-k)), text), want)
		}
		if kdf.Mac(joined(key, make([]byte, 65-k)), text) == want {
			t.Errorf("a key of %d bytes is the same with zeros up to 65", k)
		}
	}
	for k := 65; k < 200; k++ {
		key := someBytes(k)
		digest := sha256.Sum256(key)
		wantDigest(t, "a long key's hash", kdf.Mac(digest[:], text), kdf.Mac(key, text))
	}
}

// P3.1: parts that lie in one array, side by side, over one another, and behind the key, with spare room that goes on into the next.
func TestPartsInOneArray(t *testing.T) {
	array := someBytes(400)
	was := bytes.Clone(array)
	for _, k := range []int{0, 1, 63, 64, 65, 131} {
		key, a, b, c := array[:k], array[k:k+7], array[k+7:k+7], array[k+7:k+100]
		got := kdf.Mac(key, a, b, c, a, key)
		wantDigest(t, "parts in one array", got, modelMac(was[:k], joined(was[k:k+100], was[k:k+7], was[:k])))
		wantDigest(t, "one over the other", kdf.Mac(key, array[:50], array[20:80]), modelMac(was[:k], joined(was[:50], was[20:80])))
		wantDigest(t, "the key's own bytes", kdf.Mac(key, key), modelMac(was[:k], was[:k]))
		if !bytes.Equal(array, was) {
			t.Fatalf("Mac with %d bytes of key has changed what it was handed, or what lies behind it", k)
		}
	}
}

// P3.1: nothing that is handed in is changed, its spare room and the list of parts included, nor kept.
func TestMacLeavesAndKeepsNothing(t *testing.T) {
	for _, k := range keyEdges {
		key, text := someBytes(k), someBytes(50)
		want := modelMac(key, joined(text, text))
		handedKey, one, two := roomy(key), roomy(text), roomy(text)
		list := [][]byte{one, two, text}[:2]
		wasKey, wasOne := bytes.Clone(whole(handedKey)), bytes.Clone(whole(one))
		wantDigest(t, "with spare room", kdf.Mac(handedKey, list...), want)
		if !bytes.Equal(whole(handedKey), wasKey) || !bytes.Equal(whole(one), wasOne) || !bytes.Equal(whole(two), wasOne) {
			t.Errorf("Mac with %d bytes of key has changed what it was handed", k)
		}
		if &list[0][0] != &one[0] || len(list[0]) != 50 || &list[1][0] != &two[0] || len(list[1]) != 50 || len(whole(list)[2]) != 50 {
			t.Errorf("Mac with %d bytes of key has changed the list of parts", k)
		}
		clear(handedKey)
		clear(one)
		wantDigest(t, "asked again", kdf.Mac(key, text, text), want)
	}
}

// P3.1, P3.3: the digest that was answered is the caller's.
func TestDigestsAreNew(t *testing.T) {
	one, two := kdf.Mac([]byte("k"), []byte("m")), kdf.Extract([]byte("k"), []byte("m"))
	clear(one[:])
	clear(two[:])
	wantDigest(t, "Mac", kdf.Mac([]byte("k"), []byte("m")), modelMac([]byte("k"), []byte("m")))
	wantDigest(t, "Extract", kdf.Extract([]byte("k"), []byte("m")), modelMac([]byte("k"), []byte("m")))
}
