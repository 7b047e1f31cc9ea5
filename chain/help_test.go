package chain_test

import (
	"crypto/hkdf"
	"crypto/hmac"
	"crypto/sha256"
	"math/rand"
	"slices"
	"testing"

	"lethe/api"
)

// wordsMac: HMAC of one byte, by Go's own library.
func wordsMac(key api.Key, b byte) api.Key {
	mac := hmac.New(sha256.New, key[:])
	mac.Write([]byte{b})
	return api.Key(mac.Sum(nil))
}

// wordsRoot: P13.2 from its words, by Go's own library.
func wordsRoot(t *testing.T, root, shared api.Key) (next, first api.Key) {
	t.Helper()
	derived, err := hkdf.Key(sha256.New, shared[:], root[:], "lethe root", 64)
	if err != nil {
		t.Fatal(err)
	}
	return api.Key(derived[:32]), api.Key(derived[32:])
}

// wordsAhead: P13.4 from its words, for a number that is not refused.
func wordsAhead(key api.Key, n int) (next api.Key, messages []api.Key) {
	for len(messages) < n {
		messages = append(messages, wordsMac(key, 1))
		key = wordsMac(key, 2)
	}
	return key, messages
}

// someKeys: keys at the edges (none set, all set, one bit at either end, two that differ in one bit), and drawn ones.
func someKeys() []api.Key {
	full := api.Key{}
	for i := range full {
		full[i] = 0xff
	}
	keys := []api.Key{{}, full, {0: 1}, {0: 0x80}, {31: 1}, {31: 0x80}, {0: 1, 31: 7}, {3: 9}, {5}}
	random := rand.New(rand.NewSource(13))
	for range 12 {
		var k api.Key
		random.Read(k[:])
		keys = append(keys, k)
	}
	return keys
}

// wantKeys: what Ahead answers, where it refuses nothing.
func wantKeys(t *testing.T, what string, next api.Key, messages []api.Key, e api.Errno, wantNext api.Key, wantMessages []api.Key) {
	t.Helper()
	if e != api.OK || next != wantNext || !slices.Equal(messages, wantMessages) {
		t.Errorf("%s: error %d, next %x, %d keys %x, want %x and %d keys %x", what, e, next, len(messages), messages, wantNext, len(wantMessages), wantMessages)
	}
}

// whole: a list with its spare room.
func whole[T any](list []T) []T { return list[:cap(list)] }
