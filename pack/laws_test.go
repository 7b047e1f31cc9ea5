package pack_test

import (
	"bytes"
	"fmt"
	"maps"
	"math/rand"
	"slices"
	"testing"

	"lethe/api"
	"lethe/pack"
)

// P11.11: a list that is encoded comes back.
func TestThereAndBack(t *testing.T) {
	r := rand.New(rand.NewSource(5))
	lists := [][]api.Record{nil, smallest(201, 0), smallest(198, 3), recs(rec(15, letters(64), letters(900)))}
	for n := range 2000 {
		lists = append(lists, drawnFitting(r, 1+n%20))
	}
	for n, list := range lists {
		b, e := pack.Encode(list)
		if e != api.OK || len(b) != room {
			t.Fatalf("P11.11: list %d: Encode: error %d, %d bytes", n, e, len(b))
		}
		isDecoded(t, fmt.Sprintf("P11.11: list %d", n), len(list), b, list, api.OK)
	}
}

// drawnContent: bytes in which records stand often, some of them with a byte that is another one.
func drawnContent(r *rand.Rand) (int, []byte) {
	list := drawnFitting(r, 8)
	b := laid(list...)
	for range r.Intn(3) {
		b[r.Intn(1<<(1+r.Intn(9)))] = byte(r.Intn(18))
	}
	return max(0, len(list)-r.Intn(2)), b
}

// P11.11: content that Decode takes is what Encode makes of its answer.
func TestBackAndThere(t *testing.T) {
	r := rand.New(rand.NewSource(6))
	taken := 0
	for n := range 6000 {
		count, content := drawnContent(r)
		list, e := pack.Decode(count, content)
		if e != api.OK {
			continue
		}
		taken++
		if len(list) != count {
			t.Fatalf("P11.11: draw %d: %d records, want %d", n, len(list), count)
		}
		isEncoded(t, fmt.Sprintf("P11.11: draw %d", n), list, content, api.OK)
	}
	if taken < 1000 {
		t.Errorf("only %d contents were taken", taken)
	}
}

// held: what is left, by its place: the table's byte, then the key.
type held map[string]api.Record

func placeOf(r api.Record) string { return string(joined([]byte{byte(r.Table)}, r.Key)) }

// sorted: table's byte and key stand in the order of records, since a table has one byte.
func (h held) sorted() []api.Record {
	var list []api.Record
	for _, place := range slices.Sorted(maps.Keys(h)) {
		list = append(list, h[place])
	}
	return list
}

// P11.12: behind every turn of Put and Delete, the list is that of the records that are left, and so is its layout.
func TestTurnsOfPutAndDelete(t *testing.T) {
	for seed := range int64(25) {
		r := rand.New(rand.NewSource(100 + seed))
		var list []api.Record
		left := held{}
		for turn := range 120 {
			x := drawnRecord(r)
			if len(list) > 0 && r.Intn(3) == 0 {
				k := r.Intn(len(list))
				x.Table, x.Key = list[k].Table, list[k].Key
			}
			e, want := api.OK, api.OK
			var next []api.Record
			if r.Intn(3) > 0 {
				next, e = pack.Put(list, x)
				left[placeOf(x)] = x
			} else {
				next, e = pack.Delete(list, x.Table, x.Key)
				if _, there := left[placeOf(x)]; !there {
					want = api.ErrMissing
				}
				delete(left, placeOf(x))
			}
			if e == api.OK {
				list = next
			}
			if e != want || !sameList(list, left.sorted()) {
				t.Fatalf("P11.12: seed %d, turn %d: error %d, %s; want %d, %s", seed, turn, e, told(list), want, told(left.sorted()))
			}
			isLaidOut(t, fmt.Sprintf("P11.12: seed %d, turn %d", seed, turn), list, left.sorted())
		}
	}
}

// isLaidOut: the list has the layout of the sorted records, page by page.
func isLaidOut(t *testing.T, what string, list, sorted []api.Record) {
	t.Helper()
	counts, e := pack.Pack(list)
	want, code := wordsPack(sorted)
	if e != code || !sameCounts(counts, want) {
		t.Fatalf("%s: Pack: error %d, %v; want %d, %v", what, e, counts, code, want)
	}
	for page, n := range counts {
		if n < 1 || n > len(list) {
			t.Fatalf("%s: page %d has %d records of %d", what, page, n, len(list))
		}
		got, e := pack.Encode(list[:n])
		if same, _ := wordsEncode(sorted[:n]); e != api.OK || !bytes.Equal(got, same) {
			t.Fatalf("%s: page %d: error %d, or other bytes", what, page, e)
		}
		list, sorted = list[n:], sorted[n:]
	}
	if len(list) != 0 {
		t.Fatalf("%s: %d records stand in no page", what, len(list))
	}
}

// P11.12: each page but the last is followed by one whose first record would not have fitted into it.
func TestPagesAreFull(t *testing.T) {
	r := rand.New(rand.NewSource(7))
	followed := 0
	for n := range 400 {
		list := drawnSorted(r, 40)
		counts, e := pack.Pack(list)
		if e != api.OK {
			t.Fatalf("P11.12: draw %d: Pack: error %d", n, e)
		}
		from := 0
		for page, count := range counts[:max(0, len(counts)-1)] {
			if _, e := pack.Encode(list[from : from+count]); e != api.OK {
				t.Fatalf("P11.12: draw %d: page %d does not fit: error %d", n, page, e)
			}
			if _, e := pack.Encode(list[from : from+count+1]); e != api.ErrLong {
				t.Fatalf("P11.12: draw %d: the first record behind page %d would have fitted: error %d", n, page, e)
			}
			from += count
			followed++
		}
	}
	if followed < 400 {
		t.Errorf("only %d pages were followed by another", followed)
	}
}

// P11.12: the same records, put in each order of five, one of them twice and one taken out again, are one list.
func TestEachOrderOfPuts(t *testing.T) {
	all := recs(rec(0, "z", "1"), rec(1, "a", "2"), rec(1, "a\x00", letters(500)), rec(1, "b", letters(500)), rec(9, "\xff", "5"))
	for number, order := range orders(len(all)) {
		var list []api.Record
		for _, k := range order {
			old := all[k]
			old.Value = []byte("an older value")
			list = done(t, list, old)
			list = done(t, list, all[k])
			list = done(t, list, rec(5, "gone", "x"))
		}
		list, e := pack.Delete(list, 5, []byte("gone"))
		if e != api.OK || !sameList(list, all) {
			t.Fatalf("P11.12: order %d: error %d, %s", number, e, told(list))
		}
		isPacked(t, "P11.12", list, []int{3, 2}, api.OK)
	}
}

func done(t *testing.T, list []api.Record, r api.Record) []api.Record {
	t.Helper()
	out, e := pack.Put(list, r)
	if e != api.OK {
		t.Fatalf("Put(%s; %s): error %d", told(list), told(recs(r)), e)
	}
	return out
}

// orders: all orders of the numbers below n.
func orders(n int) [][]int {
	if n == 0 {
		return [][]int{nil}
	}
	var all [][]int
	for _, shorter := range orders(n - 1) {
		for at := range n {
			all = append(all, slices.Insert(slices.Clone(shorter), at, n-1))
		}
	}
	return all
}
