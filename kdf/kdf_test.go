package kdf_test

import (
	"bytes"
	"crypto/hkdf"
	"crypto/sha256"
	"math"
	"strconv"
	"testing"

	"lethe/api"
	"lethe/kdf"
)

// counts: how many bytes may be asked for: the edges, and what lies around a block's end.
var counts = []int{0, 1, 2, 31, 32, 33, 42, 63, 64, 65, 80, 96, 1000, 4096, 8127, 8128, 8129, 8159, 8160}

// refusals: how many bytes may not be asked for.
var refusals = []struct {
	n int
	e api.Errno
}{
	{-1, api.ErrPlace}, {-32, api.ErrPlace}, {-8160, api.ErrPlace}, {-8161, api.ErrPlace}, {math.MinInt32, api.ErrPlace}, {math.MinInt, api.ErrPlace}, {math.MinInt + 1, api.ErrPlace},
	{8161, api.ErrOut}, {8192, api.ErrOut}, {1 << 16, api.ErrOut}, {math.MaxInt32, api.ErrOut}, {math.MaxInt - 31, api.ErrOut}, {math.MaxInt, api.ErrOut},
}

// The secrets of the chapter's examples.
func exampleSecrets(t *testing.T) (salt, key, info []byte) {
	t.Helper()
	return unhex(t, "000102030405060708090a0b0c"), repeated(0x0b, 22), unhex(t, "f0f1f2f3f4f5f6f7f8f9")
}

// P3.3: the chapter's example.
func TestExtractExample(t *testing.T) {
	salt, key, _ := exampleSecrets(t)
	want := unhex(t, "077709362c2e32df0ddc3f0dc47bba6390b6c73bb50f9c3122ec844ad7c2b3e5")
	wantDigest(t, "Extract", kdf.Extract(salt, key), api.Digest(want))
}

// P3.3: Mac(salt, key), of any lengths, and not the other way round.
func TestExtract(t *testing.T) {
	for _, s := range keyEdges {
		for _, k := range keyEdges {
			salt, key := someBytes(s), someBytes(k)
			what := strconv.Itoa(s) + " bytes of salt, " + strconv.Itoa(k) + " of key"
			got := kdf.Extract(salt, key)
			wantDigest(t, what, got, modelMac(salt, key))
			wantDigest(t, what+" (Mac)", got, kdf.Mac(salt, key))
			other, err := hkdf.Extract(sha256.New, key, salt)
			if err != nil {
				t.Fatal(err)
			}
			wantDigest(t, what+" (crypto/hkdf)", got, api.Digest(other))
		}
	}
}

// P3.3: no salt is one of 32, or of 64, zeros; one of 65 is another.
func TestExtractWithoutSalt(t *testing.T) {
	for _, k := range keyEdges {
		key := someBytes(k)
		want := kdf.Extract(nil, key)
		for _, salt := range [][]byte{{}, make([]byte, 1), make([]byte, 32), make([]byte, 64)} {
			wantDigest(t, strconv.Itoa(len(salt))+" zeros of salt", kdf.Extract(salt, key), want)
		}
		if kdf.Extract(make([]byte, 65), key) == want {
			t.Errorf("65 zeros of salt are the same as none")
		}
	}
}

// P3.4: every number of bytes at the edges, of keys and infos of all lengths.
func TestExpand(t *testing.T) {
	for _, p := range []int{0, 1, 32, 63, 64, 65, 131} {
		for _, i := range []int{0, 1, 10, 64, 300} {
			prk, info := someBytes(p), someBytes(i)
			all := modelExpand(prk, info)
			for _, n := range counts {
				got, e := kdf.Expand(prk, info, n)
				wantBytes(t, "Expand to "+strconv.Itoa(n), got, e, all[:n])
			}
		}
	}
}

// P3.4: against another's HKDF.
func TestExpandAgainstAnother(t *testing.T) {
	prk, info := someBytes(32), someBytes(20)
	for _, n := range counts {
		want, err := hkdf.Expand(sha256.New, prk, string(info), n)
		if err != nil {
			t.Fatal(err)
		}
		got, e := kdf.Expand(prk, info, n)
		wantBytes(t, "Expand to "+strconv.Itoa(n), got, e, want)
	}
}

// P3.4: each block is a Mac of the one ahead of it, the info and its number, up to the last number that a byte holds.
func TestBlocksOfExpand(t *testing.T) {
	prk, info := someBytes(40), []byte("info")
	all, e := kdf.Expand(prk, info, api.MaxOut)
	if e != api.OK || len(all) != 255*32 {
		t.Fatalf("Expand to MaxOut: %d bytes, error %d", len(all), e)
	}
	wantDigest(t, "T1", api.Digest(all[:32]), kdf.Mac(prk, info, []byte{1}))
	for number := 2; number <= 255; number++ {
		ahead, own := all[32*(number-2):32*(number-1)], all[32*(number-1):32*number]
		wantDigest(t, "T"+strconv.Itoa(number), api.Digest(own), kdf.Mac(prk, ahead, info, []byte{byte(number)}))
	}
}

// P3.8: each number of bytes against the greatest.
func TestBeginningIsTheSame(t *testing.T) {
	salt, key, info := someBytes(13), someBytes(22), someBytes(10)
	expanded, _ := kdf.Expand(key, info, api.MaxOut)
	derived, _ := kdf.Derive(salt, key, info, api.MaxOut)
	numbers := append([]int(nil), counts...)
	for n := range 300 {
		numbers = append(numbers, n, 8160-n)
	}
	for _, n := range numbers {
		fewer, e := kdf.Expand(key, info, n)
		wantBytes(t, "Expand to "+strconv.Itoa(n), fewer, e, expanded[:n])
		fewer, e = kdf.Derive(salt, key, info, n)
		wantBytes(t, "Derive to "+strconv.Itoa(n), fewer, e, derived[:n])
	}
}

// P3.5: the chapter's examples.
func TestDeriveExamples(t *testing.T) {
	salt, key, info := exampleSecrets(t)
	for _, c := range []struct {
		what            string
		salt, key, info []byte
		want            string
	}{
		{"salt, key and info", salt, key, info, "3cb25f25faacd57a90434f64d0362f2a2d2d0a90cf1a5a4c5db02d56ecc4c5bf34007208d5b887185865"},
		{"key alone", nil, key, nil, "8da4e775a563c18f715f802a063c5a31b8a11f5c5ee1879ec3454e5f3c738d2d9d201395faa4b61a96c8"},
		{"nothing at all", nil, nil, nil, "eb70f01dede9afafa449eee1b1286504e1f62388b3f7dd4f956697b0e828fe181e59c2ec0fe6e7e7ac2613b6ab65342a83379969da234240cded3777914db907"},
	} {
		want := unhex(t, c.want)
		got, e := kdf.Derive(c.salt, c.key, c.info, len(want))
		wantBytes(t, c.what, got, e, want)
	}
}

// P3.5: Expand of what Extract answers, of any lengths.
func TestDerive(t *testing.T) {
	for _, s := range []int{0, 13, 32, 64, 65, 131} {
		for _, k := range []int{0, 1, 32, 65, 128} {
			for _, i := range []int{0, 10, 70} {
				salt, key, info := someBytes(s), someBytes(k), someBytes(i)
				prk := modelMac(salt, key)
				all := modelExpand(prk[:], info)
				for _, n := range []int{0, 1, 31, 32, 33, 80, 8159, 8160} {
					got, e := kdf.Derive(salt, key, info, n)
					wantBytes(t, "Derive to "+strconv.Itoa(n), got, e, all[:n])
				}
			}
		}
	}
}

// P3.4, P3.5: no fewer than no bytes, and no more than MaxOut, whatever else is handed in.
func TestExpandAndDeriveRefuse(t *testing.T) {
	for _, c := range refusals {
		for _, b := range [][]byte{nil, someBytes(32), someBytes(200)} {
			got, e := kdf.Expand(b, b, c.n)
			wantRefusal(t, "Expand to "+strconv.Itoa(c.n), len(got), e, c.e)
			got, e = kdf.Derive(b, b, b, c.n)
			wantRefusal(t, "Derive to "+strconv.Itoa(c.n), len(got), e, c.e)
		}
	}
}

// P3.6: all numbers of keys, each 32 bytes of the derived ones.
func TestKeys(t *testing.T) {
	for _, s := range []int{0, 32, 65} {
		salt, key, info := someBytes(s), someBytes(2*s), someBytes(s/2)
		prk := modelMac(salt, key)
		all := modelExpand(prk[:], info)
		for _, n := range []int{0, 1, 2, 3, 31, 32, 33, 254, 255} {
			keys, e := kdf.Keys(salt, key, info, n)
			if e != api.OK || len(keys) != n {
				t.Fatalf("Keys(.., %d): %d keys, error %d", n, len(keys), e)
			}
			for i, k := range keys {
				if !bytes.Equal(k[:], all[32*i:32*i+32]) {
					t.Errorf("key %d of %d: %x, want %x", i, n, k, all[32*i:32*i+32])
				}
			}
			derived, e := kdf.Derive(salt, key, info, 32*n)
			wantBytes(t, "Derive of 32 times "+strconv.Itoa(n), derived, e, all[:32*n])
		}
	}
}

// P3.6: no fewer than none, and no more than 255; numbers too, of which 32 times wraps round to one that would do.
func TestKeysRefuses(t *testing.T) {
	for _, c := range append(refusals, []struct {
		n int
		e api.Errno
	}{
		{-255, api.ErrPlace}, {-256, api.ErrPlace}, {math.MinInt + 32, api.ErrPlace}, {-math.MaxInt/16 - 1, api.ErrPlace},
		{256, api.ErrOut}, {257, api.ErrOut}, {8160, api.ErrOut}, {math.MaxInt/16 + 1, api.ErrOut}, {math.MaxInt/16 + 2, api.ErrOut}, {math.MaxInt/32 + 1, api.ErrOut},
	}...) {
		for _, b := range [][]byte{nil, someBytes(32)} {
			keys, e := kdf.Keys(b, b, b, c.n)
			wantRefusal(t, "Keys(.., "+strconv.Itoa(c.n)+")", len(keys), e, c.e)
		}
	}
}

// P3.1: nothing that is handed in is changed, its spare room included, though all three lie in one array; and nothing is kept.
func TestHandedInStaysAsItWas(t *testing.T) {
	for _, n := range []int{-1, 0, 1, 32, 33, 80, 255, 8160, 8161} {
		for _, s := range []int{0, 13, 64, 65} {
			array := someBytes(300)
			was := bytes.Clone(array)
			salt, key, info := array[:s], array[s:s+22], array[s+22:s+32]
			prk := modelMac(was[:s], was[s:s+22])
			all := modelExpand(prk[:], was[s+22:s+32])
			kdf.Extract(salt, key)
			kdf.Expand(key, info, n)
			derived, _ := kdf.Derive(salt, key, info, n)
			kdf.Keys(salt, key, info, n)
			if !bytes.Equal(array, was) {
				t.Fatalf("a call with %d bytes of salt and n %d has changed what it was handed, or what lies behind it", s, n)
			}
			clear(array)
			if len(derived) > 0 {
				wantBytes(t, "behind a change of what was handed in", derived, api.OK, all[:n])
			}
		}
	}
}

// P3.1: what is answered is the caller's, spare room too: filling it is seen neither in what was handed in, nor in other answers.
func TestAnswersAreNew(t *testing.T) {
	salt, key, info := roomy(someBytes(13)), roomy(someBytes(22)), roomy(someBytes(10))
	for _, n := range []int{0, 1, 32, 33, 80, 255} {
		ask := func() (expanded, derived []byte, keys []api.Key) {
			expanded, _ = kdf.Expand(key, info, n)
			derived, _ = kdf.Derive(salt, key, info, n)
			keys, _ = kdf.Keys(salt, key, info, n)
			return expanded, derived, keys
		}
		e1, d1, k1 := ask()
		e2, d2, k2 := ask()
		for i := range whole(e1) {
			whole(e1)[i] = 0xdd
		}
		for i := range whole(d1) {
			whole(d1)[i] = 0xdd
		}
		for i := range whole(k1) {
			whole(k1)[i] = api.Key{0xdd}
		}
		e3, d3, k3 := ask()
		if !bytes.Equal(e2, e3) || !bytes.Equal(d2, d3) || len(k2) != len(k3) {
			t.Errorf("n %d: an answer sees what was written into another", n)
		}
		for i := range k2 {
			if k2[i] != k3[i] {
				t.Errorf("n %d: key %d sees what was written into another", n, i)
			}
		}
	}
	for _, c := range [][2][]byte{{salt, roomy(someBytes(13))}, {key, roomy(someBytes(22))}, {info, roomy(someBytes(10))}} {
		if !bytes.Equal(whole(c[0]), whole(c[1])) {
			t.Error("what was written into an answer is seen in what was handed in")
		}
	}
}

// P3.4, P3.6: no byte beyond those that were asked for comes along in the spare room.
func TestNoMoreThanAskedFor(t *testing.T) {
	all := modelExpand(nil, nil)
	for _, n := range []int{0, 1, 31, 33, 80} {
		got, _ := kdf.Expand(nil, nil, n)
		for _, b := range whole(got)[n:] {
			if b != 0 {
				t.Errorf("Expand to %d: %x behind it, of which %x is secret", n, whole(got)[n:], all[n:n+32])
				break
			}
		}
	}
}
