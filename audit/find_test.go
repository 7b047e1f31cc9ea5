package audit_test

import (
	"bytes"
	"fmt"
	"math/rand"
	"slices"
	"strings"
	"testing"

	"lethe/audit"
)

// wordsFind: every place from which on the bytes are those of what, each looked at.
func wordsFind(image, what string) []int {
	var list []int
	for at := range image {
		if what != "" && strings.HasPrefix(image[at:], what) {
			list = append(list, at)
		}
	}
	return list
}

func isFound(t *testing.T, image, what string) []int {
	t.Helper()
	want := wordsFind(image, what)
	if got := audit.Find([]byte(image), []byte(what)); !slices.Equal(got, want) {
		t.Errorf("P27.6: Find(%.60q of %d bytes, %.60q of %d) = %.100v, want %.100v", image, len(image), what, len(what), fmt.Sprint(got), fmt.Sprint(want))
	}
	return want
}

// P27.6: places told by the test.
func TestFindPlaces(t *testing.T) {
	for _, c := range []struct{ image, what, want string }{
		{"", "", "[]"}, {"", "a", "[]"}, {"a", "", "[]"}, {"a", "a", "[0]"}, {"a", "b", "[]"}, {"ab", "abc", "[]"}, {"abc", "abc", "[0]"},
		{"aaaa", "a", "[0 1 2 3]"}, {"aaaa", "aa", "[0 1 2]"}, {"aaaa", "aaaa", "[0]"}, {"aaaa", "aaaaa", "[]"},
		{"xab", "ab", "[1]"}, {"abx", "ab", "[0]"}, {"abxab", "ab", "[0 3]"}, {"xabx", "ab", "[1]"}, {"ba", "ab", "[]"},
		{"abababa", "aba", "[0 2 4]"}, {"abaaba", "abaab", "[0]"}, {"aabaabaaab", "aabaaa", "[3]"}, {"aab", "ab", "[1]"}, {"aaab", "aab", "[1]"},
		{"abacabad", "abad", "[4]"}, {"ababac", "abac", "[2]"}, {"aabaaab", "aab", "[0 4]"}, {"abcabcabd", "abcabd", "[3]"}, {"aabaabaab", "aabaab", "[0 3]"},
		{"\x00\x00\x01\x00\x00\x01", "\x00\x01", "[1 4]"}, {"\x00\x00\x00", "\x00", "[0 1 2]"}, {"\xff\x7f\xff", "\xff", "[0 2]"}, {"a\x00b", "a", "[0]"}, {"é", "\xc3", "[0]"},
	} {
		if got := fmt.Sprint(audit.Find([]byte(c.image), []byte(c.what))); got != c.want {
			t.Errorf("P27.6: Find(%q, %q) = %s, want %s", c.image, c.what, got, c.want)
		}
		isFound(t, c.image, c.what)
	}
	for _, none := range [][]byte{nil, {}} {
		if len(audit.Find(none, none)) != 0 || len(audit.Find([]byte("a"), none)) != 0 || len(audit.Find(none, []byte("a"))) != 0 {
			t.Error("P27.6: Find with nil, or with no bytes, finds something")
		}
	}
}

// texts: all of n letters, of the first so many.
func texts(n, letters int) []string {
	if n == 0 {
		return []string{""}
	}
	var all []string
	for _, s := range texts(n-1, letters) {
		for c := range letters {
			all = append(all, s+string([]byte{byte('a' + c)}))
		}
	}
	return all
}

// P27.6: all bytes of few kinds in all others, so that they overlap in all ways.
func TestFindAll(t *testing.T) {
	for n := range 11 {
		for _, image := range texts(n, 2) {
			for k := range 6 {
				for _, what := range texts(k, 2) {
					isFound(t, image, what)
				}
			}
		}
	}
	for _, image := range texts(6, 3) {
		for k := range 4 {
			for _, what := range texts(k, 3) {
				isFound(t, image, what)
			}
		}
	}
}

// P27.6: drawn bytes, and pieces of them, at the beginning and at the end too.
func TestFindDrawn(t *testing.T) {
	r := rand.New(rand.NewSource(27))
	found := 0
	for range 4000 {
		b := make([]byte, r.Intn(200))
		kinds := 1 + r.Intn(3)
		for i := range b {
			b[i] = byte(r.Intn(kinds))
		}
		lo := r.Intn(len(b) + 1)
		hi := lo + r.Intn(len(b)+1-lo)
		what := string(b[lo:hi])
		if r.Intn(3) == 0 {
			what += "\x01"
		}
		found += len(isFound(t, string(b), what))
		isFound(t, string(b), string(b))
		isFound(t, string(b), string(b)+"\x00")
		isFound(t, string(b), string(b[lo:]))
		isFound(t, string(b), string(b[:hi]))
	}
	if found < 10000 {
		t.Errorf("only %d places were drawn", found)
	}
}

// P27.6: each single byte, and each piece of an image, in bytes that are no image, and in one that can't be read.
func TestFindInAnyBytes(t *testing.T) {
	image := string(imageOf(9, recs(rec(5, "k", string(sample(32, 5))))))
	for c := range 256 {
		isFound(t, image, string([]byte{byte(c)}))
		isFound(t, image[:700], string([]byte{byte(c)}))
	}
	key := string(sample(32, 5))
	for _, b := range []string{image, image[:4607], image[2560:], "x" + image, strings.ReplaceAll(image, "\xd6", "\x00")} {
		if got := isFound(t, b, key); len(got) != 1 {
			t.Errorf("P27.6: a key stands at %v", got)
		}
		isFound(t, b, key[1:])
		isFound(t, b, b)
	}
}

// P27.1, P27.6: long bytes that repeat themselves take no longer than others do.
func TestFindLong(t *testing.T) {
	const size = 512 * 4096
	for _, c := range []struct {
		image, what []byte
		want        int
	}{
		{zeros(size), zeros(size / 2), size/2 + 1},
		{zeros(size), zeros(size), 1},
		{zeros(size), zeros(size + 1), 0},
		{zeros(size), append(zeros(size/2), 1), 0},
		{append(zeros(size), 1), append(zeros(size/2), 1), 1},
		{bytes.Repeat([]byte("ab"), size/2), bytes.Repeat([]byte("ab"), size/4), size/4 + 1},
		{bytes.Repeat([]byte("aab"), size/3), append(bytes.Repeat([]byte("aab"), size/9), 'b'), 0},
	} {
		got := audit.Find(c.image, c.what)
		if len(got) != c.want {
			t.Errorf("P27.6: %d places of %d bytes in %d, want %d", len(got), len(c.what), len(c.image), c.want)
		}
		for i, at := range got {
			if i > 0 && at <= got[i-1] || at < 0 || at > len(c.image)-len(c.what) {
				t.Fatalf("P27.6: place %d is %d", i, at)
			}
		}
	}
}
