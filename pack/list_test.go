package pack_test

import (
	"fmt"
	"math/rand"
	"testing"

	"lethe/api"
	"lethe/pack"
)

// some: a sorted list with tables, keys that begin alike, and bytes above 127.
func some() []api.Record {
	return recs(rec(1, "b", "1"), rec(1, "ba", "2"), rec(1, "bb", "3"), rec(1, "\x80", "4"), rec(3, "a", "5"), rec(3, "c", "6"))
}

// P11.8: ahead of all, in the midst, behind all.
func TestPutAtEachPlace(t *testing.T) {
	for _, c := range []struct {
		r  api.Record
		at int
	}{
		{rec(0, "z", "n"), 0}, {rec(1, "a", "n"), 0}, {rec(1, "\x00", "n"), 0}, {rec(1, "b\x00", "n"), 1},
		{rec(1, "baa", "n"), 2}, {rec(1, "bbb", "n"), 3}, {rec(1, "\x7f", "n"), 3}, {rec(1, "\x80\x00", "n"), 4},
		{rec(1, "\xff", "n"), 4}, {rec(2, "a", "n"), 4}, {rec(3, "A", "n"), 4}, {rec(3, "b", ""), 5},
		{rec(3, "ca", "n"), 6}, {rec(3, "d", letters(900)), 6}, {rec(15, letters(64), "n"), 6},
	} {
		isPut(t, "a new place", some(), c.r, put(some(), c.at, c.r), api.OK)
	}
	one := rec(1, "a", "")
	isPut(t, "into no list", nil, one, recs(one), api.OK)
	isPut(t, "into an empty list", []api.Record{}, one, recs(one), api.OK)
}

// P11.8: in the place of each that is there; the value is the new one, shorter or longer.
func TestPutInThePlaceOfAnother(t *testing.T) {
	for i, old := range some() {
		for _, value := range []string{"", "n", string(old.Value), letters(900)} {
			want := some()
			want[i].Value = []byte(value)
			isPut(t, "a place that is taken", some(), rec(old.Table, string(old.Key), value), want, api.OK)
		}
	}
	isPut(t, "a list of one", recs(rec(0, "a", "x")), rec(0, "a", ""), recs(rec(0, "a", "")), api.OK)
}

// unsorted: lists of records that are not sorted.
func unsorted() [][]api.Record {
	return [][]api.Record{
		recs(rec(1, "c", ""), rec(1, "a", "")),
		recs(rec(2, "a", ""), rec(1, "b", "")),
		recs(rec(1, "a", ""), rec(1, "a", "")),
		recs(rec(1, "a", "x"), rec(1, "a", "y"), rec(1, "c", "")),
		recs(rec(1, "a", ""), rec(1, "c", ""), rec(1, "b", "")),
		recs(rec(1, "ab", ""), rec(1, "a", ""), rec(1, "c", "")),
		recs(rec(1, "\x80", ""), rec(1, "\x7f", "")),
	}
}

// P11.8 to P11.10: of a list that is not sorted, wherever the place would be, and whether it is there or not.
func TestListsThatAreNotSorted(t *testing.T) {
	for _, list := range unsorted() {
		for _, r := range append(recs(rec(0, "a", ""), rec(1, "b", ""), rec(15, "z", "")), list...) {
			isPut(t, "not sorted", list, r, nil, api.ErrOrder)
			isDeleted(t, "not sorted", list, r.Table, string(r.Key), nil, api.ErrOrder)
			isFound(t, "not sorted", list, r.Table, string(r.Key), 0, false)
		}
		isDeleted(t, "not sorted, no place", list, -1, "", nil, api.ErrOrder)
		isFound(t, "not sorted, no place", list, 99, letters(65), 0, false)
	}
}

// P11.8 to P11.10: of a list with one that is none, at each place, sorted besides or not.
func TestListsWithNoRecord(t *testing.T) {
	for _, list := range append(unsorted(), some(), nil) {
		for _, none := range noRecords() {
			for at := range len(list) + 1 {
				spoilt := put(list, at, none)
				for _, r := range append(recs(rec(0, "a", ""), rec(15, "z", "")), spoilt...) {
					isPut(t, "one is none", spoilt, r, nil, api.ErrRecord)
					isDeleted(t, "one is none", spoilt, r.Table, string(r.Key), nil, api.ErrRecord)
					isFound(t, "one is none", spoilt, r.Table, string(r.Key), 0, false)
				}
			}
		}
	}
}

// P11.8: what is put is no record, whatever the list is.
func TestPutOfNoRecord(t *testing.T) {
	for _, none := range noRecords() {
		for _, list := range append(unsorted(), some(), nil) {
			isPut(t, "no record", list, none, nil, api.ErrRecord)
		}
	}
}

// P11.9: each that is there, at the beginning, in the midst and at the end.
func TestDeleteEach(t *testing.T) {
	for i, r := range some() {
		want := append(some()[:i:i], some()[i+1:]...)
		isDeleted(t, "one that is there", some(), r.Table, string(r.Key), want, api.OK)
	}
	isDeleted(t, "the only one", recs(rec(15, letters(64), letters(900))), 15, letters(64), nil, api.OK)
}

// others: places at which some() has nothing, also such as no record has.
func others() []api.Record {
	list := recs(rec(1, "", ""), rec(3, "", ""), rec(0, "b", ""), rec(2, "b", ""), rec(3, "b", ""), rec(1, "a", ""), rec(1, "c", ""),
		rec(1, "b\x00", ""), rec(1, "\xff", ""), rec(4, "a", ""), rec(15, "a", ""), rec(1, letters(64), ""), rec(1, letters(65), ""), rec(3, letters(70000), ""))
	for _, table := range farNumbers() {
		list = append(list, rec(table, "b", ""), rec(table, "", ""))
	}
	return list
}

// P11.9: none has that table and key.
func TestDeleteOfNone(t *testing.T) {
	for _, r := range others() {
		isDeleted(t, "one that isn't there", some(), r.Table, string(r.Key), nil, api.ErrMissing)
		isDeleted(t, "of no list", nil, r.Table, string(r.Key), nil, api.ErrMissing)
	}
	if list, e := pack.Delete(some(), 1, nil); e != api.ErrMissing || len(list) != 0 {
		t.Errorf("P11.9: Delete of a nil key: error %d, %s", e, told(list))
	}
}

// P11.10: each that is there, and how many stand ahead of each place that is free.
func TestFindEach(t *testing.T) {
	for i, r := range some() {
		isFound(t, "one that is there", some(), r.Table, string(r.Key), i, true)
	}
	for _, r := range others() {
		ahead := 0
		for _, x := range some() {
			if wordsAhead(x, r) {
				ahead++
			}
		}
		isFound(t, "one that isn't there", some(), r.Table, string(r.Key), ahead, false)
		isFound(t, "in no list", nil, r.Table, string(r.Key), 0, false)
	}
	if at, is := pack.Find(some(), 3, nil); at != 4 || is {
		t.Errorf("P11.10: Find of a nil key: %d, %v", at, is)
	}
}

// P11.10: lists of every length to 40 and some longer, each place in them and each between.
func TestFindInListsOfEachLength(t *testing.T) {
	for _, length := range append(upTo(40), 63, 64, 65, 100, 127, 128) {
		var list []api.Record
		for i := range length {
			list = append(list, rec(7, string([]byte{byte(2*i + 1)}), ""))
		}
		for i := range length {
			isFound(t, "there", list, 7, string([]byte{byte(2*i + 1)}), i, true)
			isFound(t, "between", list, 7, string([]byte{byte(2 * i)}), i, false)
			isFound(t, "between", list, 7, string([]byte{byte(2 * i), 9}), i, false)
		}
		isFound(t, "ahead of all", list, 6, "\xff", 0, false)
		isFound(t, "behind all", list, 7, "\xff\xff", length, false)
		isFound(t, "behind all", list, 8, "\x00", length, false)
	}
}

func upTo(n int) []int {
	list := make([]int, n)
	for i := range list {
		list[i] = i
	}
	return list
}

// P11.8 to P11.10: drawn lists, some of them spoilt, against the chapter's words.
func TestDrawnChanges(t *testing.T) {
	r := rand.New(rand.NewSource(4))
	for n := range 3000 {
		list := drawnSorted(r, 1+n%15)
		if r.Intn(6) == 0 {
			list = put(list, r.Intn(len(list)+1), drawnRecord(r))
		}
		x := drawnRecord(r)
		if len(list) > 0 { // a place that is taken, or a table and a key that are there, though not always together
			k, other := r.Intn(len(list)), r.Intn(len(list))
			switch r.Intn(3) {
			case 0:
				x.Table, x.Key = list[k].Table, list[k].Key
			case 1:
				x.Table, x.Key = list[k].Table, list[other].Key
			}
		}
		what := fmt.Sprintf("draw %d", n)
		want, e := wordsPut(list, x)
		isPut(t, what, list, x, want, e)
		want, e = wordsDelete(list, x.Table, x.Key)
		isDeleted(t, what, list, x.Table, string(x.Key), want, e)
		index, there := wordsFind(list, x.Table, x.Key)
		isFound(t, what, list, x.Table, string(x.Key), index, there)
	}
}
