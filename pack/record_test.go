package pack_test

import (
	"fmt"
	"math"
	"math/rand"
	"testing"

	"lethe/api"
	"lethe/pack"
)

// P11.2, P11.4: the chapter's first line, and every table, key and value of the named edges with every other.
func TestCheckAndSizeAtTheEdges(t *testing.T) {
	for _, table := range append(farNumbers(), 0, 1, 14, api.MaxTable) {
		for _, key := range []int{0, 1, 2, api.MaxKey - 1, api.MaxKey, api.MaxKey + 1, 256, 257, 70000} {
			for _, value := range []int{0, 1, api.MaxValue - 1, api.MaxValue, api.MaxValue + 1, 65535, 65536, 65537} {
				r := rec(table, letters(key), letters(value))
				want := api.ErrRecord
				if table >= 0 && table <= 15 && key >= 1 && key <= 64 && value <= 900 {
					want = api.OK
				}
				if e := pack.Check(r); e != want {
					t.Errorf("P11.2: Check of table %d, a key of %d and a value of %d bytes: %d, want %d", table, key, value, e, want)
				}
				if n := pack.Size(r); n != 4+key+value {
					t.Errorf("P11.4: Size of table %d, a key of %d and a value of %d bytes: %d", table, key, value, n)
				}
			}
		}
	}
}

// P11.2, P11.4: what is nil counts as empty.
func TestNilKeyAndValue(t *testing.T) {
	for _, c := range []struct {
		r    api.Record
		e    api.Errno
		size int
	}{
		{api.Record{}, api.ErrRecord, 4},
		{api.Record{Table: 15}, api.ErrRecord, 4},
		{api.Record{Key: []byte{0}}, api.OK, 5},
		{api.Record{Value: []byte{0}}, api.ErrRecord, 5},
	} {
		if e, n := pack.Check(c.r), pack.Size(c.r); e != c.e || n != c.size {
			t.Errorf("P11.2, P11.4: %s: Check %d, Size %d; want %d, %d", told(recs(c.r)), e, n, c.e, c.size)
		}
	}
}

// P11.3: each stands ahead of all that follow it, and is of one place with itself under any value.
func TestCompareAllPairs(t *testing.T) {
	keys := []string{"", "\x00", "\x00\x00", "\x00\xff", "\x01", "a", "a\x00", "aa", "ab", "ab\x00", "ab\xff", "b", letters(63), letters(64), letters(65), "\x7e\xff", "\x7f", "\x80", "\x80a", "\xc3\xa9", "\xfe\xff", "\xff", "\xff\x00", "\xff\xff"}
	tables := []int{math.MinInt, math.MinInt + 1, -1 << 32, -256, -1, 0, 1, 2, 15, 16, 255, 256, 1 << 32, 1<<32 + 1, math.MaxInt - 1, math.MaxInt}
	var all []api.Record
	for _, table := range tables {
		for _, key := range keys {
			all = append(all, rec(table, key, "v"))
		}
	}
	for i, a := range all {
		for k, b := range all {
			want := 0
			if i < k {
				want = -1
			}
			if i > k {
				want = 1
			}
			b.Value = []byte{byte(k), byte(i)}
			if n := pack.Compare(a, b); n != want {
				t.Fatalf("P11.3: Compare(%s; %s): %d, want %d", told(recs(a)), told(recs(b)), n, want)
			}
		}
	}
}

// P11.3: each single byte against each other one, alone and behind what is alike.
func TestCompareEveryByte(t *testing.T) {
	for a := range 256 {
		for b := range 256 {
			want := 0
			if a < b {
				want = -1
			}
			if a > b {
				want = 1
			}
			for _, ahead := range []string{"", "k", "\xff\x00k", letters(63)} {
				one, two := rec(3, ahead+string([]byte{byte(a)}), "z"), rec(3, ahead+string([]byte{byte(b)}), "a")
				if n := pack.Compare(one, two); n != want {
					t.Fatalf("P11.3: Compare of keys that end with %d and %d behind %q: %d, want %d", a, b, ahead, n, want)
				}
			}
		}
	}
}

// P11.2 to P11.4: drawn records, of all kinds, against the chapter's words.
func TestDrawnRecords(t *testing.T) {
	r := rand.New(rand.NewSource(1))
	drawn := func() api.Record {
		table := r.Intn(20) - 2
		return api.Record{Table: table, Key: drawnBytes(r, r.Intn(70)>>r.Intn(7)), Value: drawnBytes(r, r.Intn(1000)>>r.Intn(10))}
	}
	for n := range 5000 {
		a, b := drawn(), drawn()
		if r.Intn(2) == 0 {
			b.Table = a.Table
		}
		want := 1
		if wordsAhead(a, b) {
			want = -1
		}
		if wordsOnePlace(a, b) {
			want = 0
		}
		what := fmt.Sprintf("draw %d: %s; %s", n, told(recs(a)), told(recs(b)))
		if got := pack.Compare(a, b); got != want {
			t.Fatalf("P11.3: %s: Compare: %d, want %d", what, got, want)
		}
		if got := pack.Compare(b, a); got != -want {
			t.Fatalf("P11.3: %s: turned round: %d, want %d", what, got, -want)
		}
		if got := pack.Check(a) == api.OK; got != wordsIsRecord(a) {
			t.Fatalf("P11.2: %s: Check: %v", what, got)
		}
		if got := pack.Size(a); got != len(wordsBytes(a)) {
			t.Fatalf("P11.4: %s: Size: %d", what, got)
		}
	}
}
