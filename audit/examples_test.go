package audit_test

import (
	"fmt"
	"testing"

	"lethe/api"
	"lethe/audit"
	"lethe/sectors"
	"lethe/store"
)

// The chapter's worked examples, row by row.
func TestWorkedExamplesOfBytes(t *testing.T) {
	for _, c := range []struct {
		size int
		code api.Errno
	}{{0, noImage}, {511, noImage}, {2048, noRoom}, {2560, noMark}} {
		list, e := audit.Records(zeros(c.size))
		if len(list) != 0 || e != c.code {
			t.Errorf("P27.2: Records of %d zero bytes: %d records, error %d, want %d", c.size, len(list), e, c.code)
		}
	}
	for _, c := range []struct{ image, what, want string }{{"abab", "ab", "[0 2]"}, {"aaa", "aa", "[0 1]"}, {"aaa", "", "[]"}, {"", "", "[]"}} {
		if got := fmt.Sprint(audit.Find([]byte(c.image), []byte(c.what))); got != c.want {
			t.Errorf("P27.6: Find of %q, what %q: %s, want %s", c.image, c.what, got, c.want)
		}
	}
}

func TestWorkedExamplesOfAnImage(t *testing.T) {
	d, e := sectors.New(9)
	isCode(t, "a disk of 9 sectors", e, 0)
	eleven := string(full(0x11, 32))
	if _, err := store.Load(d, recs(rec(5, "k", eleven))); err != nil {
		t.Fatal(err)
	}
	image := d.Image()
	all := "Blank:2560 Frame:2584 Blank:3584 Frame:3602 Public:3603 Frame:3605 Secret:3637 Blank:4608"
	isRegions(t, "5/k", image, all)
	keys, e := audit.Secrets(image)
	if e != 0 || len(keys) != 1 || string(keys[0][:]) != eleven {
		t.Errorf("P27.5: Secrets %x, error %d", keys, e)
	}
	if clean, e := audit.Clean(image); !clean || e != 0 {
		t.Errorf("P27.4: Clean %v, error %d", clean, e)
	}
	isCode(t, "byte 4000 as 01", isAudited(t, "byte 4000 as 01", turned(image, 4000, 1)), badSum)
	isRegions(t, "byte 3 as 01", turned(image, 3, 1), "Blank:3 LogPart:4 "+all)
	if clean, e := audit.Clean(turned(image, 3, 1)); clean || e != 0 {
		t.Errorf("P27.4: with byte 3 as 01: Clean %v, error %d", clean, e)
	}
	isCode(t, "5/k", isAudited(t, "5/k", image), 0)
	isCode(t, "byte 3 as 01", isAudited(t, "byte 3 as 01", turned(image, 3, 1)), 0)
}
