package session_test

import (
	"fmt"
	"strings"
	"testing"

	"lethe/api"
	"lethe/session"
)

// P21.2: 1 to MaxName bytes; lengths that look like right ones in their last byte are none.
func TestName(t *testing.T) {
	for length := range 600 {
		want := api.Errno(212)
		if 1 <= length && length <= 16 {
			want = 0
		}
		isCode(t, fmt.Sprintf("P21.2: %d bytes", length), session.Name(strings.Repeat("n", length)), want)
		isCode(t, fmt.Sprintf("P21.2: %d bytes 00", length), session.Name(strings.Repeat("\x00", length)), want)
	}
	for _, length := range []int{1 << 16, 1<<16 + 1, 1<<16 + 16, 1 << 20, 1<<24 + 5} {
		isCode(t, fmt.Sprintf("P21.2: %d bytes", length), session.Name(strings.Repeat("n", length)), 212)
	}
}

// P21.2: any bytes; they are counted, not characters.
func TestNameOfAnyBytes(t *testing.T) {
	for c := range 256 {
		for _, name := range []string{string([]byte{byte(c)}), string([]byte{'a', byte(c)}), strings.Repeat(string([]byte{byte(c)}), 16)} {
			isCode(t, fmt.Sprintf("P21.2: %q", name), session.Name(name), 0)
		}
	}
	isCode(t, "P21.2: 8 characters of 16 bytes", session.Name("äöüßäöüß"), 0)
	isCode(t, "P21.2: 9 characters of 18 bytes", session.Name("äöüßäöüßä"), 212)
	isCode(t, "P21.2: 6 characters of 18 bytes", session.Name("日本語日本語"), 212)
}

// P21.1 to P21.12: names of every length and of any bytes serve for a whole session, beside one another.
func TestNamesOfSessions(t *testing.T) {
	long := "aaaaaaaaaaaaaaaa"
	a, b := client(t, 1, wide()), client(t, 2, wide())
	for n := 1; n <= 16; n++ {
		p := a.initiates("a name", long[:n], b.prekey(uint32(n)), "to "+long[:n], "d")
		a.sends("a name", long[:n], "lost", "d")
		q := a.sends("a name", long[:n], "again", "d")
		b.accepts("a name", long[:n], p, "d", "to "+long[:n])
		b.receives("a name", long[:n], q, "d", "again")
	}
	for n := 1; n <= 16; n += 3 {
		b.forgets("one of them", long[:n], 0)
		a.forgets("one of them", long[:n], 0)
	}
	for n := 1; n <= 16; n++ {
		want := api.Errno(0)
		if n%3 == 1 {
			want = 211
		}
		s, e := b.tell("those that are left", long[:n])
		isCode(t, "P21.10: those that are left", e, want)
		if e == 0 && (s.Skipped != 1 || s.Got != 3) {
			t.Errorf("P21.8: %d bytes: %+v", n, s)
		}
	}
	odd := []string{"\x00", "\x01", "\xff\xfe", "\x00\x00\x00", "日本語", "\x03bob", "bob "}
	for i, name := range odd {
		if i < 6 {
			p := a.initiates("odd bytes", name, b.prekey(uint32(50+i)), name, "")
			b.accepts("odd bytes", name, p, "", name)
			b.receives("odd bytes", name, a.sends("odd bytes", name, "on", ""), "", "on")
		}
	}
	names, e := a.peers("odd bytes")
	isCode(t, "P21.9: odd bytes", e, 0)
	if len(names) != 16 {
		t.Errorf("P21.9: %q", names)
	}
	_, e = a.initiate("one too many", odd[6], b.prekey(60), a.draw(), a.draw(), nil, nil)
	isCode(t, "P21.4: one too many", e, 213)
}
