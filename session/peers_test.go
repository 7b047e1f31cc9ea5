package session_test

import (
	"bytes"
	"fmt"
	"strings"
	"testing"

	"lethe/api"
)

func areNames(t *testing.T, b *bench, what string, want ...string) {
	t.Helper()
	if names, e := b.peers(what); e != 0 || strings.Join(names, "/") != strings.Join(want, "/") || len(names) != len(want) {
		t.Errorf("P21.9: %s: Peers answers %q, %d; want %q", what, names, e, want)
	}
}

// P21.9: shorter names first, then as bytes, in whatever order the sessions were begun; what stands in their records is not looked at.
func TestPeers(t *testing.T) {
	a, b := client(t, 1, wide()), client(t, 2, wide())
	areNames(t, a, "none")
	for i, name := range []string{"carol", "bob", "zz", "a", "\xff", "\x00", "bo\x00", "Bob", "0123456789abcdef"} {
		a.initiates("unlike names", name, b.prekey(uint32(i+1)), "hi", "")
	}
	areNames(t, a, "unlike names", "\x00", "a", "\xff", "zz", "Bob", "bo\x00", "bob", "carol", "0123456789abcdef")
	a.lay(rec(4, wordsPeer("bob"), nil), rec(4, wordsPeer("b"), []byte("any")), rec(5, []byte("\x01q"), nil), rec(6, []byte("\x01q"), nil))
	areNames(t, a, "odd values", "\x00", "a", "b", "\xff", "zz", "Bob", "bo\x00", "bob", "carol", "0123456789abcdef")
	a.forgets("one of them", "zz", 0)
	areNames(t, a, "one less", "\x00", "a", "b", "\xff", "Bob", "bo\x00", "bob", "carol", "0123456789abcdef")
	c := laidOut(t, 81, ground(wide(), draw(1))...)
	for n := range 256 {
		c.lay(rec(4, []byte{1, byte(n)}, nil))
	}
	if names, e := c.peers("more than Peers"); e != 0 || len(names) != 256 {
		t.Errorf("P21.9: %d names, %d", len(names), e)
	}
}

// P21.9: a key of table 4 that is no peer's bytes, wherever it stands among right ones.
func TestWrongPeers(t *testing.T) {
	b := laidOut(t, 801, append(ground(wide(), draw(1)), rec(4, wordsPeer("b"), nil), rec(4, wordsPeer("bob"), nil), rec(4, wordsPeer("0123456789abcdef"), nil))...)
	wrong := []string{"\x00", "\x01", "\x02", "\x03", "\x10", "\x11", "\xff", "\x00a", "\x02a", "\x01ab", "\x03bobb", "\x04bob", "bob", "\x0f0123456789abcdef", "\x110123456789abcdef", "\x110123456789abcdefg", "\x12" + strings.Repeat("n", 18), "\x3f" + strings.Repeat("n", 63), "\xff" + strings.Repeat("n", 63)}
	for n := 1; n <= 64; n++ {
		wrong = append(wrong, strings.Repeat("\x00", n))
	}
	for _, key := range wrong {
		b.lay(rec(4, []byte(key), nil))
		_, e := b.peers(fmt.Sprintf("key %x", key))
		isCode(t, fmt.Sprintf("P21.9: key %x", key), e, 180)
		b.abort()
	}
	for n := range 63 {
		key := joined([]byte{byte(n)}, bytes.Repeat([]byte{'n'}, n))
		b.lay(rec(4, key, nil))
		_, e := b.peers("a length")
		want := api.Errno(180)
		if 1 <= n && n <= 16 {
			want = 0
		}
		isCode(t, fmt.Sprintf("P21.9: a name of %d bytes", n), e, want)
		b.abort()
	}
	areNames(t, b, "right ones", "b", "bob", "0123456789abcdef")
}
