package chain_test

import (
	"encoding/hex"
	"math"
	"strconv"
	"testing"

	"lethe/api"
	"lethe/chain"
	"lethe/kdf"
)

// Digests that were worked out by another program than Go's library.
const (
	stepOfZerosNext    = "4ee7be0c7872360ca67414608081e9bd60fd580a7bbd209701d2a5a0b4316d0d"
	stepOfZerosMessage = "3d7afb663124ecbf2c953f863d4fc8796eeb2d372b64aad58697ec5264649cdb"
	rootNext           = "4aa5a0f4a7018e384125f9959e8ef1c931f97fe64babc70ea6b2753491fb5ca8"
	rootFirst          = "3acf4129847128c287aae9c8d9f07587198e9ce086fc314378f6b17afc18ca1f"
)

func key(t *testing.T, digits string) api.Key {
	t.Helper()
	b, err := hex.DecodeString(digits)
	if err != nil || len(b) != 32 {
		t.Fatalf("%q is no key", digits)
	}
	return api.Key(b)
}

// P13.3: the chapter's first example, with the digests written out.
func TestStepExample(t *testing.T) {
	next, message := chain.Step(api.Key{})
	if want := key(t, stepOfZerosNext); next != want {
		t.Errorf("next: %x, want %x", next, want)
	}
	if want := key(t, stepOfZerosMessage); message != want {
		t.Errorf("message: %x, want %x", message, want)
	}
	zeros := make([]byte, 32)
	if api.Digest(next) != kdf.Mac(zeros, []byte{2}) || api.Digest(message) != kdf.Mac(zeros, []byte{1}) {
		t.Errorf("not kdf's HMACs: %x, %x", next, message)
	}
}

// P13.2: the chapter's last example, with a derivation written out.
func TestRootExample(t *testing.T) {
	r, s := api.Key{0: 1, 31: 7}, api.Key{3: 9}
	next, first := chain.Root(r, s)
	derived, e := kdf.Derive(r[:], s[:], []byte("lethe root"), 64)
	if e != api.OK || string(derived) != string(next[:])+string(first[:]) {
		t.Errorf("%x %x, want the halves of %x (error %d)", next, first, derived, e)
	}
	if want := key(t, rootNext); next != want {
		t.Errorf("next: %x, want %x", next, want)
	}
	if want := key(t, rootFirst); first != want {
		t.Errorf("first: %x, want %x", first, want)
	}
}

// P13.4: the chapter's other examples.
func TestAheadExamples(t *testing.T) {
	k := api.Key{5}
	next, messages, e := chain.Ahead(k, 0)
	wantKeys(t, "Ahead by 0", next, messages, e, k, nil)
	n1, m1 := chain.Step(k)
	n2, m2 := chain.Step(n1)
	next, messages, e = chain.Ahead(k, 2)
	wantKeys(t, "Ahead by 2", next, messages, e, n2, []api.Key{m1, m2})
}

// P13.2: as HKDF of Go's own library derives it, for all pairs of keys: neither argument is the other.
func TestRoot(t *testing.T) {
	keys := someKeys()
	for i, root := range keys {
		for j, shared := range keys {
			next, first := chain.Root(root, shared)
			wantNext, wantFirst := wordsRoot(t, root, shared)
			if next != wantNext || first != wantFirst {
				t.Errorf("root %d, secret %d: %x %x, want %x %x", i, j, next, first, wantNext, wantFirst)
			}
		}
	}
}

// P13.3: as HMAC of Go's own library has it.
func TestStep(t *testing.T) {
	for i, k := range someKeys() {
		next, message := chain.Step(k)
		if wantNext, wantMessage := wordsMac(k, 2), wordsMac(k, 1); next != wantNext || message != wantMessage {
			t.Errorf("key %d: %x %x, want %x %x", i, next, message, wantNext, wantMessage)
		}
	}
}

// P13.4: every number of steps that is allowed, the bounds too.
func TestAhead(t *testing.T) {
	k := api.Key{0: 1, 31: 7}
	for n := 0; n <= 256; n++ {
		next, messages, e := chain.Ahead(k, n)
		wantNext, wantMessages := wordsAhead(k, n)
		wantKeys(t, "Ahead by "+strconv.Itoa(n), next, messages, e, wantNext, wantMessages)
	}
	for i, k := range someKeys() {
		next, messages, e := chain.Ahead(k, 5)
		wantNext, wantMessages := wordsAhead(k, 5)
		wantKeys(t, "key "+strconv.Itoa(i), next, messages, e, wantNext, wantMessages)
	}
}

// P13.4, P13.1: too few and too many steps, up to what an int holds; no keys then.
func TestAheadRefused(t *testing.T) {
	for _, n := range []int{-1, -2, -255, -256, -257, math.MinInt32, math.MinInt + 1, math.MinInt, 257, 258, 512, 1 << 16, math.MaxInt32, 1 << 40, math.MaxInt - 1, math.MaxInt} {
		for i, k := range someKeys() {
			next, messages, e := chain.Ahead(k, n)
			if next != (api.Key{}) || len(messages) != 0 || e != api.ErrPlace {
				t.Errorf("key %d by %d: %x, %d keys, error %d, want no keys and ErrPlace", i, n, next, len(messages), e)
			}
		}
	}
}
