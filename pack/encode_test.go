package pack_test

import (
	"fmt"
	"math/rand"
	"testing"

	"lethe/api"
)

// P11.5, P11.7: of no records: a content of zeros, no page.
func TestNoRecords(t *testing.T) {
	for _, none := range [][]api.Record{nil, {}, make([]api.Record, 3)[:0]} {
		isEncoded(t, "no records", none, zeros(room), api.OK)
		isPacked(t, "no records", none, nil, api.OK)
	}
}

// P11.5: a record's bytes at the edges of what it may have.
func TestEncodeOfOne(t *testing.T) {
	for _, table := range []int{0, 1, 15} {
		for _, key := range []int{1, 2, 63, 64} {
			for _, value := range []int{0, 1, 255, 256, 257, 899, 900} {
				r := rec(table, letters(key), letters(value))
				want := joined([]byte{byte(table), byte(key)}, r.Key, []byte{byte(value / 256), byte(value % 256)}, r.Value, zeros(1004-key-value))
				isEncoded(t, "one record", recs(r), want, api.OK)
				isPacked(t, "one record", recs(r), []int{1}, api.OK)
			}
		}
	}
}

// bothRefuse: Encode and Pack name the same fault of a list.
func bothRefuse(t *testing.T, what string, list []api.Record, code api.Errno) {
	t.Helper()
	isEncoded(t, what, list, nil, code)
	isPacked(t, what, list, nil, code)
}

// put: a list with one more in that place, whatever it is.
func put(list []api.Record, at int, r api.Record) []api.Record {
	return append(append(append([]api.Record{}, list[:at]...), r), list[at:]...)
}

// P11.5, P11.7: one that is no record, at each place, also where the list is not sorted ahead of it or behind it, or is too long.
func TestNoRecordAmongThem(t *testing.T) {
	lists := map[string][]api.Record{
		"none beside it":         nil,
		"one":                    recs(rec(1, "a", "")),
		"sorted":                 recs(rec(0, "a", "x"), rec(1, "b", ""), rec(1, "z", ""), rec(15, "a", "")),
		"turned round":           recs(rec(15, "a", ""), rec(1, "b", ""), rec(0, "a", "x")),
		"one place twice":        recs(rec(1, "b", "x"), rec(1, "b", "y"), rec(2, "b", "y")),
		"too long":               recs(sized("a", 900), sized("b", 900)),
		"too long, turned round": recs(sized("b", 900), sized("a", 900)),
	}
	for what, list := range lists {
		for _, none := range noRecords() {
			for at := range len(list) + 1 {
				bothRefuse(t, fmt.Sprintf("%s, with one that is none at %d", what, at), put(list, at, none), api.ErrRecord)
			}
		}
	}
}

// P11.5, P11.7: lists that are not sorted, at each place, too long or not.
func TestNotSorted(t *testing.T) {
	sorted := recs(rec(0, "a", ""), rec(0, "b", ""), rec(1, "a", ""), rec(1, "a\x00", ""), rec(1, "ab", ""), rec(1, "\x80", ""), rec(2, "a", ""))
	isEncoded(t, "sorted", sorted, laid(sorted...), api.OK)
	isPacked(t, "sorted", sorted, []int{7}, api.OK)
	for i := range sorted {
		for k := range i {
			list := append([]api.Record{}, sorted...)
			list[i], list[k] = list[k], list[i]
			bothRefuse(t, fmt.Sprintf("%d and %d changed over", k, i), list, api.ErrOrder)
		}
		again := rec(sorted[i].Table, string(sorted[i].Key), "another value")
		bothRefuse(t, "one place twice", put(sorted, i, again), api.ErrOrder)
		bothRefuse(t, "one place twice", put(sorted, i+1, again), api.ErrOrder)
		bothRefuse(t, "the same twice", put(sorted, i, sorted[i]), api.ErrOrder)
	}
	bothRefuse(t, "too long, turned round", recs(sized("b", 900), sized("a", 900)), api.ErrOrder)
	bothRefuse(t, "too long, two of one place", recs(sized("a", 900), sized("a", 900)), api.ErrOrder)
	bothRefuse(t, "too long ahead of what is out of order", recs(sized("a", 900), sized("b", 900), rec(0, "a", "")), api.ErrOrder)
}

// P11.5, P11.7: sizes of 1007, 1008 and 1009 together, of two and of more records, and far beyond.
func TestSizesAtTheRoom(t *testing.T) {
	for _, sum := range []int{1006, 1007, 1008, 1009, 1010} {
		what := fmt.Sprintf("%d together", sum)
		for _, list := range [][]api.Record{
			recs(sized("a", 105), sized("b", sum-105)),
			recs(sized("a", 504), sized("b", sum-504)),
			recs(sized("a", 905), sized("b", sum-905)),
			recs(sized("a", 5), sized("b", 500), sized("c", sum-505)),
			recs(sized("a", 500), sized("b", 500), sized("c", sum-1000)),
			recs(rec(0, letters(64), ""), rec(1, letters(64), letters(800)), rec(2, letters(64), letters(sum-1004))),
		} {
			if sum <= 1008 {
				isEncoded(t, what, list, laid(list...), api.OK)
				isPacked(t, what, list, []int{len(list)}, api.OK)
			} else {
				isEncoded(t, what, list, nil, api.ErrLong)
				isPacked(t, what, list, []int{len(list) - 1, 1}, api.OK)
			}
		}
	}
	isEncoded(t, "two of the greatest", recs(rec(1, letters(64), letters(900)), rec(2, letters(64), letters(900))), nil, api.ErrLong)
	isPacked(t, "two of the greatest", recs(rec(1, letters(64), letters(900)), rec(2, letters(64), letters(900))), []int{1, 1}, api.OK)
}

// smallest: n records of 5 bytes, then as many as are asked for of 6.
func smallest(n, longer int) []api.Record {
	var list []api.Record
	for i := range n + longer {
		r := rec(i/256, string([]byte{byte(i)}), "")
		if i >= n {
			r.Value = []byte{7}
		}
		list = append(list, r)
	}
	return list
}

// P11.5, P11.7: as many records as a page takes at most: 201 of 5 bytes leave 3; 198 and 3 longer ones leave none.
func TestManySmallRecords(t *testing.T) {
	for _, c := range []struct {
		list  []api.Record
		pages []int
	}{
		{smallest(200, 0), []int{200}}, {smallest(201, 0), []int{201}},
		{smallest(198, 3), []int{201}}, {smallest(197, 4), []int{200, 1}},
		{smallest(202, 0), []int{201, 1}}, {smallest(402, 0), []int{201, 201}},
		{smallest(403, 0), []int{201, 201, 1}}, {smallest(4000, 0), []int{201, 201, 201, 201, 201, 201, 201, 201, 201, 201, 201, 201, 201, 201, 201, 201, 201, 201, 201, 181}},
	} {
		isPacked(t, "small records", c.list, c.pages, api.OK)
		if len(c.pages) == 1 {
			isEncoded(t, "small records", c.list, laid(c.list...), api.OK)
		} else {
			isEncoded(t, "small records", c.list, nil, api.ErrLong)
		}
	}
}

// P11.7: a record that does not fit ends the page, also if a later one would have fitted.
func TestPackTakesTheNextOnes(t *testing.T) {
	isPacked(t, "great and small by turns", recs(sized("a", 900), sized("b", 900), sized("c", 5), sized("d", 900), sized("e", 5)), []int{1, 2, 2}, api.OK)
	isPacked(t, "a small one behind two great ones", recs(sized("a", 504), sized("b", 505), sized("c", 500)), []int{1, 2}, api.OK)
	isPacked(t, "pages filled to the last byte", recs(sized("a", 504), sized("b", 504), sized("c", 504), sized("d", 504), sized("e", 504)), []int{2, 2, 1}, api.OK)
}

// P11.5, P11.7: drawn lists, sorted or spoilt, against the chapter's words.
func TestDrawnLists(t *testing.T) {
	r := rand.New(rand.NewSource(2))
	seen := map[api.Errno]int{}
	for n := range 3000 {
		list := drawnSorted(r, 1+n%12)
		if len(list) > 0 && r.Intn(3) == 0 {
			list = put(list, r.Intn(len(list)+1), drawnRecord(r))
		}
		if r.Intn(5) == 0 {
			list = put(list, r.Intn(len(list)+1), noRecords()[r.Intn(len(noRecords()))])
		}
		want, e := wordsEncode(list)
		isEncoded(t, fmt.Sprintf("draw %d", n), list, want, e)
		counts, code := wordsPack(list)
		isPacked(t, fmt.Sprintf("draw %d", n), list, counts, code)
		seen[e]++
	}
	for _, e := range []api.Errno{api.OK, api.ErrRecord, api.ErrOrder, api.ErrLong} {
		if seen[e] < 100 {
			t.Errorf("error %d was drawn %d times", e, seen[e])
		}
	}
}
