package pack_test

import (
	"bytes"
	"fmt"
	"math"
	"math/rand"
	"strings"
	"testing"

	"lethe/api"
	"lethe/pack"
)

const room = 1008 // as the chapter writes it

// joined: new memory, whatever room lies behind the parts.
func joined(parts ...[]byte) []byte { return bytes.Join(parts, nil) }

func zeros(n int) []byte { return make([]byte, n) }

// letters: a text of n bytes.
func letters(n int) string { return strings.Repeat("v", n) }

// rec: a record of letters.
func rec(table int, key, value string) api.Record {
	return api.Record{Table: table, Key: []byte(key), Value: []byte(value)}
}

func recs(list ...api.Record) []api.Record { return list }

// sized: a record of table 1 whose bytes are n.
func sized(key string, n int) api.Record { return rec(1, key, letters(n-4-len(key))) }

// noRecords: one for each way in which a record may be none, each with all else right.
func noRecords() []api.Record {
	return recs(
		rec(-1, "m", "x"), rec(16, "m", "x"), rec(math.MinInt, "m", "x"), rec(math.MaxInt, "m", "x"),
		rec(256, "m", "x"), rec(257, "m", "x"), rec(-255, "m", "x"), rec(1<<32+1, "m", "x"),
		rec(1, "", "x"), rec(1, letters(65), "x"), rec(1, letters(256), "x"), rec(1, letters(257), "x"),
		rec(1, "m", letters(901)), rec(1, "m", letters(65536)), rec(1, "m", letters(65537)),
		api.Record{}, rec(16, "", letters(901)))
}

// farNumbers: numbers whose low bits could be taken for small ones.
func farNumbers() []int {
	return []int{math.MinInt, math.MinInt + 1, -1 << 32, -1<<32 + 1, -256, -255, -2, -1, 16, 17, 256, 257, 1 << 16, 1 << 31, 1 << 32, 1<<32 + 1, math.MaxInt - 1, math.MaxInt}
}

// told: a list in short.
func told(list []api.Record) string {
	var parts []string
	for _, r := range list {
		parts = append(parts, fmt.Sprintf("%d/%.9q=%.9q(%d)", r.Table, r.Key, r.Value, len(r.Value)))
	}
	if len(parts) > 12 {
		parts = append(parts[:12], "..")
	}
	return fmt.Sprintf("%d: %s", len(list), strings.Join(parts, " "))
}

func sameList(a, b []api.Record) bool {
	if len(a) != len(b) {
		return false
	}
	for i := range a {
		if a[i].Table != b[i].Table || !bytes.Equal(a[i].Key, b[i].Key) || !bytes.Equal(a[i].Value, b[i].Value) {
			return false
		}
	}
	return true
}

func sameCounts(a, b []int) bool {
	if len(a) != len(b) {
		return false
	}
	for i := range a {
		if a[i] != b[i] {
			return false
		}
	}
	return true
}

// The chapter's sentences, made without any of what the program uses.

func wordsIsRecord(r api.Record) bool {
	return r.Table >= 0 && r.Table <= 15 && len(r.Key) >= 1 && len(r.Key) <= 64 && len(r.Value) <= 900
}

// wordsAhead: does a stand ahead of b?
func wordsAhead(a, b api.Record) bool {
	if a.Table != b.Table {
		return a.Table < b.Table
	}
	for i, x := range a.Key {
		if i == len(b.Key) {
			return false
		}
		if x != b.Key[i] {
			return x < b.Key[i]
		}
	}
	return len(a.Key) < len(b.Key)
}

func wordsOnePlace(a, b api.Record) bool {
	return a.Table == b.Table && string(a.Key) == string(b.Key)
}

func wordsFault(list []api.Record) api.Errno {
	for _, r := range list {
		if !wordsIsRecord(r) {
			return api.ErrRecord
		}
	}
	for i := range list {
		if i > 0 && !wordsAhead(list[i-1], list[i]) {
			return api.ErrOrder
		}
	}
	return api.OK
}

// wordsBytes: of any record whose lengths have room in their bytes.
func wordsBytes(r api.Record) []byte {
	n := len(r.Value)
	return joined([]byte{byte(r.Table), byte(len(r.Key))}, r.Key, []byte{byte(n >> 8), byte(n)}, r.Value)
}

// laid: the bytes of any records, right or wrong, with zeros behind them up to the content's end, where they are cut.
func laid(list ...api.Record) []byte {
	var all []byte
	for _, r := range list {
		all = append(all, wordsBytes(r)...)
	}
	return joined(all, zeros(room))[:room]
}

func wordsEncode(list []api.Record) ([]byte, api.Errno) {
	if e := wordsFault(list); e != api.OK {
		return nil, e
	}
	var all []byte
	for _, r := range list {
		all = append(all, wordsBytes(r)...)
	}
	if len(all) > room {
		return nil, api.ErrLong
	}
	return joined(all, zeros(room-len(all))), api.OK
}

// wordsRead: the record at the beginning of b, and how many bytes it has; 0: none stands there.
func wordsRead(b []byte) (api.Record, int) {
	if len(b) < 2 || b[0] > 15 || b[1] < 1 || b[1] > 64 {
		return api.Record{}, 0
	}
	valueAt := 2 + int(b[1]) + 2
	if len(b) < valueAt {
		return api.Record{}, 0
	}
	n := int(b[valueAt-2])*256 + int(b[valueAt-1])
	if n > 900 || len(b) < valueAt+n {
		return api.Record{}, 0
	}
	return api.Record{Table: int(b[0]), Key: joined(b[2 : valueAt-2]), Value: joined(b[valueAt : valueAt+n])}, valueAt + n
}

func wordsDecode(count int, content []byte) ([]api.Record, api.Errno) {
	if count < 0 {
		return nil, api.ErrPlace
	}
	if len(content) < room {
		return nil, api.ErrShort
	}
	if len(content) > room {
		return nil, api.ErrTail
	}
	var list []api.Record
	for len(list) < count {
		r, n := wordsRead(content)
		if n == 0 {
			return nil, api.ErrRecord
		}
		if len(list) > 0 && !wordsAhead(list[len(list)-1], r) {
			return nil, api.ErrOrder
		}
		list, content = append(list, r), content[n:]
	}
	if !bytes.Equal(content, zeros(len(content))) {
		return nil, api.ErrSlack
	}
	return list, api.OK
}

func wordsPack(list []api.Record) ([]int, api.Errno) {
	if e := wordsFault(list); e != api.OK {
		return nil, e
	}
	var counts []int
	used := 0
	for _, r := range list {
		n := len(wordsBytes(r))
		if len(counts) == 0 || used+n > room {
			counts, used = append(counts, 0), 0
		}
		counts[len(counts)-1]++
		used += n
	}
	return counts, api.OK
}

func wordsPut(list []api.Record, r api.Record) ([]api.Record, api.Errno) {
	if !wordsIsRecord(r) {
		return nil, api.ErrRecord
	}
	if e := wordsFault(list); e != api.OK {
		return nil, e
	}
	var ahead, behind []api.Record
	for _, x := range list {
		if wordsAhead(x, r) {
			ahead = append(ahead, x)
		}
		if wordsAhead(r, x) {
			behind = append(behind, x)
		}
	}
	return append(append(ahead, r), behind...), api.OK
}

func wordsDelete(list []api.Record, table int, key []byte) ([]api.Record, api.Errno) {
	if e := wordsFault(list); e != api.OK {
		return nil, e
	}
	var left []api.Record
	for _, x := range list {
		if !wordsOnePlace(x, api.Record{Table: table, Key: key}) {
			left = append(left, x)
		}
	}
	if len(left) == len(list) {
		return nil, api.ErrMissing
	}
	return left, api.OK
}

func wordsFind(list []api.Record, table int, key []byte) (int, bool) {
	if wordsFault(list) != api.OK {
		return 0, false
	}
	wanted, ahead := api.Record{Table: table, Key: key}, 0
	for i, x := range list {
		if wordsOnePlace(x, wanted) {
			return i, true
		}
		if wordsAhead(x, wanted) {
			ahead++
		}
	}
	return ahead, false
}

// What is asked of the calls: of an error nothing beside it.

func isEncoded(t *testing.T, what string, list []api.Record, want []byte, code api.Errno) {
	t.Helper()
	b, e := pack.Encode(list)
	if e != code || !bytes.Equal(b, want) {
		t.Errorf("P11.5: %s: Encode(%s): error %d, %d bytes that begin with %x; want %d, %d bytes, %x", what, told(list), e, len(b), b[:min(24, len(b))], code, len(want), want[:min(24, len(want))])
	}
}

func isDecoded(t *testing.T, what string, count int, content []byte, want []api.Record, code api.Errno) {
	t.Helper()
	list, e := pack.Decode(count, content)
	if e != code || !sameList(list, want) {
		t.Errorf("P11.6: %s: Decode(%d, %d bytes that begin with %x): error %d, %s; want %d, %s", what, count, len(content), content[:min(24, len(content))], e, told(list), code, told(want))
	}
}

func isPacked(t *testing.T, what string, list []api.Record, want []int, code api.Errno) {
	t.Helper()
	counts, e := pack.Pack(list)
	if e != code || !sameCounts(counts, want) {
		t.Errorf("P11.7: %s: Pack(%s): error %d, %v; want %d, %v", what, told(list), e, counts, code, want)
	}
}

func isPut(t *testing.T, what string, list []api.Record, r api.Record, want []api.Record, code api.Errno) {
	t.Helper()
	out, e := pack.Put(list, r)
	if e != code || !sameList(out, want) {
		t.Errorf("P11.8: %s: Put(%s; %s): error %d, %s; want %d, %s", what, told(list), told(recs(r)), e, told(out), code, told(want))
	}
}

func isDeleted(t *testing.T, what string, list []api.Record, table int, key string, want []api.Record, code api.Errno) {
	t.Helper()
	out, e := pack.Delete(list, table, []byte(key))
	if e != code || !sameList(out, want) {
		t.Errorf("P11.9: %s: Delete(%s; %d, %.9q): error %d, %s; want %d, %s", what, told(list), table, key, e, told(out), code, told(want))
	}
}

func isFound(t *testing.T, what string, list []api.Record, table int, key string, index int, there bool) {
	t.Helper()
	at, is := pack.Find(list, table, []byte(key))
	if at != index || is != there {
		t.Errorf("P11.10: %s: Find(%s; %d, %.9q): %d, %v; want %d, %v", what, told(list), table, key, at, is, index, there)
	}
}

// Drawn things: they hang on the seed alone.

// drawnBytes: n bytes of a few kinds, so that keys begin alike often, and bytes above 127 and zeros occur.
func drawnBytes(r *rand.Rand, n int) []byte {
	b := make([]byte, n)
	for i := range b {
		b[i] = []byte{0, 1, 'a', 'b', 127, 128, 255}[r.Intn(7)]
	}
	return b
}

// drawnRecord: with short keys mostly, so that places meet, and values up to the greatest.
func drawnRecord(r *rand.Rand) api.Record {
	key, value := 1+r.Intn(3), r.Intn(20)
	if r.Intn(8) == 0 {
		key = 1 + r.Intn(64)
	}
	if r.Intn(4) == 0 {
		value = r.Intn(901)
	}
	return api.Record{Table: r.Intn(16), Key: drawnBytes(r, key), Value: drawnBytes(r, value)}
}

// drawnSorted: a sorted list of at most n records, put together by the chapter's words.
func drawnSorted(r *rand.Rand, n int) []api.Record {
	var list []api.Record
	for range r.Intn(n + 1) {
		list, _ = wordsPut(list, drawnRecord(r))
	}
	return list
}

// drawnFitting: a sorted list whose bytes have room in one page.
func drawnFitting(r *rand.Rand, n int) []api.Record {
	list := drawnSorted(r, n)
	if counts, _ := wordsPack(list); len(counts) > 0 {
		return list[:counts[0]]
	}
	return nil
}
