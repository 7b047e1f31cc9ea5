package pack_test

import (
	"testing"

	"lethe/api"
	"lethe/pack"
)

// P11.2, P11.3: the chapter's examples of single records, line by line.
func TestExamplesOfRecords(t *testing.T) {
	for _, c := range []struct {
		r api.Record
		e api.Errno
	}{
		{rec(16, "a", ""), api.ErrRecord}, {rec(-1, "a", ""), api.ErrRecord},
		{rec(0, "", "x"), api.ErrRecord}, {rec(0, "a", ""), api.OK},
	} {
		if e := pack.Check(c.r); e != c.e {
			t.Errorf("P11.2: Check(%s): %d, want %d", told(recs(c.r)), e, c.e)
		}
	}
	for _, c := range []struct {
		a, b api.Record
		n    int
	}{
		{rec(1, "a", "x"), rec(1, "a", "y"), 0}, {rec(1, "b", ""), rec(2, "a", ""), -1},
		{rec(1, "ab", ""), rec(1, "b", ""), -1}, {rec(1, "ab", ""), rec(1, "a", ""), 1},
	} {
		if n := pack.Compare(c.a, c.b); n != c.n {
			t.Errorf("P11.3: Compare(%s; %s): %d, want %d", told(recs(c.a)), told(recs(c.b)), n, c.n)
		}
	}
}

// P11.5 to P11.7: the chapter's examples of pages, line by line.
func TestExamplesOfPages(t *testing.T) {
	two := recs(rec(1, "a", "xy"), rec(2, "bc", ""))
	content := joined([]byte{1, 1, 0x61, 0, 2, 0x78, 0x79, 2, 2, 0x62, 0x63, 0, 0}, zeros(995))
	isEncoded(t, "example", two, content, api.OK)
	isEncoded(t, "example", recs(two[1], two[0]), nil, api.ErrOrder)
	isEncoded(t, "example", recs(rec(1, "a", "x"), rec(1, "a", "y")), nil, api.ErrOrder)
	isEncoded(t, "example", nil, zeros(1008), api.OK)
	isDecoded(t, "example", 2, content, two, api.OK)
	isDecoded(t, "example", 1, content, nil, api.ErrSlack)
	isDecoded(t, "example", 3, content, nil, api.ErrRecord)
	isPacked(t, "example", recs(rec(1, "a", letters(500)), rec(1, "b", letters(494)), rec(1, "c", letters(1))), []int{2, 1}, api.OK)
	isPacked(t, "example", recs(rec(1, "a", letters(500)), rec(1, "b", letters(498)), rec(1, "c", letters(900))), []int{2, 1}, api.OK)
}

// P11.8 to P11.10: the chapter's examples of lists, line by line.
func TestExamplesOfLists(t *testing.T) {
	a, b, c := rec(1, "a", "x"), rec(1, "b", "y"), rec(1, "c", "z")
	isPut(t, "example", recs(a, c), b, recs(a, b, c), api.OK)
	isPut(t, "example", recs(a), rec(1, "a", "w"), recs(rec(1, "a", "w")), api.OK)
	isDeleted(t, "example", recs(a), 1, "a", nil, api.OK)
	isDeleted(t, "example", recs(a), 1, "b", nil, api.ErrMissing)
	list := recs(rec(1, "a", ""), rec(1, "c", ""))
	isFound(t, "example", list, 1, "b", 1, false)
	isFound(t, "example", list, 1, "c", 1, true)
	isFound(t, "example", list, 0, "zz", 0, false)
	isFound(t, "example", list, 9, "a", 2, false)
}
