package safety_test

import (
	"bytes"
	"crypto/sha256"
	"fmt"
	"math/big"
	"math/rand"
	"strings"
	"testing"

	"lethe/api"
	"lethe/safety"
)

// The numbers as the chapter has them, so that a changed constant is seen.
const (
	maxName   = 16
	tooLong   = api.Errno(5)
	empty     = api.Errno(6)
	badDigits = api.Errno(250)
)

// The chapter's examples.
const (
	halfAlice = "666535064773935883793737020507"
	halfBob   = "534240950503946380342171611951"
	number    = "53424 09505 03946 38034 21716 11951 66653 50647 73935 88379 37370 20507"
	digits    = halfBob + halfAlice
)

// of32: a key of one byte, 32 times.
func of32(b byte) api.Key { return api.Key(bytes.Repeat([]byte{b}, 32)) }

// wordsName: the name's error, by P25.1's words.
func wordsName(name string) api.Errno {
	switch {
	case name == "":
		return empty
	case len(name) > maxName:
		return tooLong
	}
	return 0
}

// wordsHalf: P25.2 from its words, over a hash of joined bytes; the groups' numbers are big ones, written by fmt.
func wordsHalf(sum func([]byte) [32]byte, name string, identity api.Key) (string, api.Errno) {
	if e := wordsName(name); e != 0 {
		return "", e
	}
	start := append([]byte{1, byte(len(name))}, name...)
	d := sum(append(start, identity[:]...))
	for i := 0; i < 15; i++ {
		d = sum(append(bytes.Clone(d[:]), identity[:]...))
	}
	half := ""
	for first := d[:30]; len(first) > 0; first = first[5:] {
		rest := new(big.Int).Mod(new(big.Int).SetBytes(first[:5]), big.NewInt(100000))
		half += fmt.Sprintf("%05d", rest)
	}
	return half, 0
}

// wordsNumber: P25.3 from its words.
func wordsNumber(a string, ka api.Key, b string, kb api.Key) (string, api.Errno) {
	first, e := wordsHalf(sha256.Sum256, a, ka)
	if e != 0 {
		return "", e
	}
	second, e := wordsHalf(sha256.Sum256, b, kb)
	if e != 0 {
		return "", e
	}
	if strings.Compare(first, second) > 0 {
		first, second = second, first
	}
	var groups []string
	for _, h := range []string{first, second} {
		groups = append(groups, h[:5], h[5:10], h[10:15], h[15:20], h[20:25], h[25:])
	}
	return strings.Join(groups, "\x20"), 0
}

// wordsRead: P25.4 from its words, byte by byte: every byte of a sign that is longer than one byte is above 7f.
func wordsRead(text string) (string, api.Errno) {
	var read []byte
	for _, b := range []byte(text) {
		switch {
		case b == 0x20, b == 0x09, b == 0x0a, b == 0x2d:
		case 0x30 <= b && b <= 0x39:
			read = append(read, b)
		default:
			return "", badDigits
		}
	}
	if len(read) != 60 {
		return "", badDigits
	}
	return string(read), 0
}

// wordsMatch: P25.5 from its words.
func wordsMatch(text, a string, ka api.Key, b string, kb api.Key) (bool, api.Errno) {
	read, e := wordsRead(text)
	if e != 0 {
		return false, e
	}
	want, e := wordsNumber(a, ka, b, kb)
	if e != 0 {
		return false, e
	}
	return read == strings.ReplaceAll(want, " ", ""), 0
}

// someKeys: keys at the edges, two that differ in one bit at either end, and drawn ones.
func someKeys() []api.Key {
	keys := []api.Key{{}, of32(0xff), of32(1), of32(2), {0: 1}, {0: 0x80}, {31: 1}, {31: 0x80}}
	random := rand.New(rand.NewSource(25))
	for range 6 {
		var k api.Key
		random.Read(k[:])
		keys = append(keys, k)
	}
	return keys
}

// someNames: of every length that is taken, of any bytes: letters, 00, ff, runes of more bytes, and bytes that are no UTF-8.
func someNames() []string {
	names := []string{"alice", "bob", "0", "\x01", "\x7f", "\x80", "é", "\u0661", "\ufffd", "😀", "a\x00", "\x00a", " ", "a ", "\n", "\xc3", "\xc3\x28", "\xed\xa0\x80", "\xf8\x88\x80\x80\x80", "\xc0\xb0", strings.Repeat("é", 8), strings.Repeat("😀", 4)}
	for n := 1; n <= maxName; n++ {
		for _, b := range []string{"n", "\x00", "\xff"} {
			names = append(names, strings.Repeat(b, n))
		}
	}
	return names
}

// longNames: of 17 bytes and of more, of such numbers too whose low bits are those of a right one.
func longNames() []string {
	names := []string{strings.Repeat("é", 9), strings.Repeat("\u0661", 8) + "\xff", strings.Repeat("😀", 5)}
	for _, n := range []int{17, 18, 31, 32, 33, 64, 255, 256, 257, 272, 1000, 1 << 16, 1<<16 + 1, 1<<16 + 16, 1<<20 + 5} {
		for _, b := range []string{"n", "\x00", "\xff"} {
			names = append(names, strings.Repeat(b, n))
		}
	}
	return names
}

// onlyDigits: are there so many ASCII digits, and nothing else?
func onlyDigits(s string, n int) bool {
	return len(s) == n && strings.Trim(s, "0123456789") == ""
}

func isHalf(t *testing.T, what, name string, k api.Key, want string, code api.Errno) {
	t.Helper()
	if got, e := safety.Half(name, k); got != want || e != code {
		t.Errorf("%s: Half(%.40q, %x): %q, error %d, want %q, %d", what, name, k, got, e, want, code)
	}
}

func isNumber(t *testing.T, what, a string, ka api.Key, b string, kb api.Key, want string, code api.Errno) {
	t.Helper()
	if got, e := safety.Number(a, ka, b, kb); got != want || e != code {
		t.Errorf("%s: Number(%.40q, %x, %.40q, %x): %q, error %d, want %q, %d", what, a, ka, b, kb, got, e, want, code)
	}
}

func isRead(t *testing.T, what, text, want string, code api.Errno) {
	t.Helper()
	if got, e := safety.Read(text); got != want || e != code {
		t.Errorf("%s: Read(%.200q): %q, error %d, want %q, %d", what, text, got, e, want, code)
	}
}

func isMatch(t *testing.T, what, text, a string, ka api.Key, b string, kb api.Key, want bool, code api.Errno) {
	t.Helper()
	if got, e := safety.Match(text, a, ka, b, kb); got != want || e != code {
		t.Errorf("%s: Match(%.200q, %.40q, %x, %.40q, %x): %v, error %d, want %v, %d", what, text, a, ka, b, kb, got, e, want, code)
	}
}

// isAlike: all four calls are what the chapter's words say.
func isAlike(t *testing.T, what, text, a string, ka api.Key, b string, kb api.Key) {
	t.Helper()
	half, e := wordsHalf(sha256.Sum256, a, ka)
	isHalf(t, what, a, ka, half, e)
	both, e := wordsNumber(a, ka, b, kb)
	isNumber(t, what, a, ka, b, kb, both, e)
	read, e := wordsRead(text)
	isRead(t, what, text, read, e)
	same, e := wordsMatch(text, a, ka, b, kb)
	isMatch(t, what, text, a, ka, b, kb, same, e)
}
