package audit_test

import (
	"fmt"
	"testing"

	"lethe/api"
	"lethe/audit"
)

// isClean: P27.4, told by the test.
func isClean(t *testing.T, what string, image []byte, want bool) {
	t.Helper()
	isCode(t, what, isAudited(t, what, image), 0)
	if clean, _ := audit.Clean(image); clean != want {
		t.Errorf("P27.4: %s: Clean %v, want %v", what, clean, want)
	}
}

// P27.4, P27.7: layouts of no records, of one, of some pages, of all.
func TestLayoutsAreClean(t *testing.T) {
	some := recs(rec(1, "a", "x"), sized(2, "b", 900), sized(2, "c", 108), sized(3, "d", 905), rec(4, "e", ""))
	for n := 5; n < 40; n++ {
		isClean(t, "no records", wordsLayout(n, nil), true)
		if n >= 9 {
			isClean(t, "one", wordsLayout(n, some[:1]), true)
		}
		if n >= 17 {
			isClean(t, "some pages", wordsLayout(n, some), true)
		}
	}
	var many []api.Record
	for i := range 48 {
		many = append(many, sized(i/3, fmt.Sprintf("%02d", i), 500))
	}
	isClean(t, "all pages", wordsLayout(4*25+1, many), true)
}

// P27.4, P27.7: records that stand in other pages than pack would lay them into can be read, and are not clean.
func TestOtherSplits(t *testing.T) {
	a, b, c, d := rec(1, "a", "x"), sized(2, "b", 500), sized(2, "c", 502), sized(2, "d", 503) // 6 bytes, 500, 502: just a page; 503 are one too many
	for _, k := range []struct {
		used [][]api.Record
		want bool
	}{
		{[][]api.Record{{a, b, c}, {d}}, true},
		{[][]api.Record{{a, b}, {c, d}}, false},
		{[][]api.Record{{a, b}, {c}, {d}}, false},
		{[][]api.Record{{a}, {b, c}, {d}}, false},
		{[][]api.Record{{a}, {b}, {c}, {d}}, false},
		{[][]api.Record{{a, b, c}}, true},
		{[][]api.Record{{a, b}, {c}}, false},
		{[][]api.Record{{a, b}, {d}}, true},
		{[][]api.Record{{a}, {b, d}}, false},
		{[][]api.Record{{a}, {b}}, false},
		{[][]api.Record{{b, c}, {d}}, true},
		{[][]api.Record{{b}, {c, d}}, false},
		{[][]api.Record{{b, d}}, true},
		{[][]api.Record{{b}, {d}}, false},
	} {
		isClean(t, fmt.Sprint(len(k.used), " pages: ", told(flat(k.used))), imageOf(25, k.used...), k.want)
	}
}

// P27.4, P27.7: layouts with one byte changed anywhere, as long as the image can be read; where a page's own bytes are changed its checksum is made to fit, too.
func TestChangedLayouts(t *testing.T) {
	images := [][]byte{
		wordsLayout(5, nil),
		wordsLayout(10, recs(rec(2, "k", "v"), rec(5, "k", string(full(0x11, 32))))),
		wordsLayout(15, recs(sized(1, "a", 900), sized(6, "b", 700))),
	}
	for i, image := range images {
		readable := 0
		for at := range image {
			c := byte(1 + at%254)
			what := fmt.Sprintf("image %d, byte %d is changed", i, at)
			dirty := turned(image, at, image[at]^c)
			if isAudited(t, what, dirty) == 0 {
				readable++
				if clean, _ := audit.Clean(dirty); clean {
					t.Errorf("P27.4: %s: it is clean", what)
				}
			}
			p := wordsRoom(len(image) / 512)
			if home := wordsHome(p, 0); at >= home && at < wordsHome(p, p) {
				home += (at - home) / 1024 * 1024
				isAudited(t, what+", with a checksum", laid(dirty, home, sealed(dirty[home:home+1024])))
			}
		}
		if readable < 1500 {
			t.Errorf("image %d: only %d changed ones can be read", i, readable)
		}
	}
}

// P27.7: a marker that stands over slots: what store.Open would make of it is not what the image is.
func TestStandingMarker(t *testing.T) {
	was, now := recs(rec(5, "k", string(full(1, 32)))), recs(rec(5, "k", string(full(2, 32))))
	image := wordsLayout(9, was)
	for _, bits := range []byte{1, 2, 3} {
		dirty := laid(image, 512, joined(headOf(2, 1, 1), pageOf(1, now...)))
		dirty = turned(turned(dirty, 0, bits), 511, 1)
		isClean(t, "a marker that stands", dirty, false)
		list, _ := audit.Records(dirty)
		if !sameList(list, was) {
			t.Errorf("P27.2: the log is looked at: %s", told(list))
		}
	}
	isClean(t, "a marker that stands over the same pages", laid(turned(turned(image, 0, 2), 511, 1), 512+1024, pageOf(1, was...)), false)
	isClean(t, "a marker that makes no sense", turned(image, 511, 1), false)
}
