package pack_test

import (
	"fmt"
	"math"
	"math/rand"
	"testing"

	"lethe/api"
)

// P11.6: count is looked at first, then the content's length, whatever stands in it.
func TestDecodeCountAndLength(t *testing.T) {
	good := laid(rec(1, "a", "xy"), rec(2, "bc", ""))
	spoilt := laid(rec(16, "a", "xy"))
	for _, content := range [][]byte{good, spoilt, zeros(room)} {
		for _, length := range []int{0, 1, 2, 4, 1007, 1008, 1009, 1024, 5000} {
			b := joined(content, zeros(4000))[:length]
			for _, count := range []int{math.MinInt, -1 << 32, -2, -1} {
				isDecoded(t, fmt.Sprintf("%d bytes", length), count, b, nil, api.ErrPlace)
			}
			for _, count := range []int{0, 1, 2, 3, math.MaxInt} {
				if length < 1008 {
					isDecoded(t, fmt.Sprintf("%d bytes", length), count, b, nil, api.ErrShort)
				}
				if length > 1008 {
					isDecoded(t, fmt.Sprintf("%d bytes", length), count, b, nil, api.ErrTail)
				}
			}
		}
	}
	isDecoded(t, "nil", 0, nil, nil, api.ErrShort)
	isDecoded(t, "nil", -1, nil, nil, api.ErrPlace)
	isDecoded(t, "ff behind the room", 0, joined(zeros(room), []byte{255}), nil, api.ErrTail)
}

// P11.6: fewer than stand there leave bytes that are not 00; more find none behind the last one.
func TestDecodeOtherCounts(t *testing.T) {
	list := recs(rec(1, "a", "xy"), rec(2, "bc", ""), rec(2, "bd", "q"))
	for count := range 8 {
		switch {
		case count < 3:
			isDecoded(t, "too few", count, laid(list...), nil, api.ErrSlack)
		case count == 3:
			isDecoded(t, "just as many", count, laid(list...), list, api.OK)
		default:
			isDecoded(t, "too many", count, laid(list...), nil, api.ErrRecord)
		}
	}
	for _, count := range []int{201, 202, 1 << 31, 1 << 32, math.MaxInt} {
		isDecoded(t, "far too many", count, laid(list...), nil, api.ErrRecord)
		isDecoded(t, "far too many of zeros", count, zeros(room), nil, api.ErrRecord)
	}
	isDecoded(t, "no records", 0, zeros(room), nil, api.OK)
	full := smallest(198, 3)
	isDecoded(t, "a full page", 201, laid(full...), full, api.OK)
	isDecoded(t, "a full page, one more", 202, laid(full...), nil, api.ErrRecord)
	isDecoded(t, "a full page, far more", math.MaxInt, laid(full...), nil, api.ErrRecord)
	isDecoded(t, "a full page, one fewer", 200, laid(full...), nil, api.ErrSlack)
}

// P11.6: a record with its lengths at all edges, alone in the content.
func TestDecodeBounds(t *testing.T) {
	for _, table := range []int{0, 1, 15, 16, 17, 128, 255} {
		for _, key := range []int{0, 1, 63, 64, 65, 255} {
			for _, value := range []int{0, 1, 255, 256, 512, 700, 899, 900, 901, 1024, 32768, 65535} {
				r := rec(table, letters(key), letters(value))
				if table <= 15 && key >= 1 && key <= 64 && value <= 900 {
					isDecoded(t, "in bounds", 1, laid(r), recs(r), api.OK)
				} else {
					isDecoded(t, "out of bounds", 1, laid(r), nil, api.ErrRecord)
				}
			}
		}
	}
}

// cutAt: the bytes of a record at the content's end, of which so many are missing; other records fill what is ahead of it.
func cutAt(r api.Record, missing int) (content []byte, ahead []api.Record) {
	last := wordsBytes(r)
	fill := room - len(last) + missing
	for k := 0; fill > 0; k++ {
		n := min(fill, 400)
		if left := fill - n; left > 0 && left < 5 {
			n -= 5
		}
		ahead = append(ahead, rec(0, string([]byte{byte('a' + k)}), letters(n-5)))
		fill -= n
	}
	return laid(append(append([]api.Record{}, ahead...), r)...), ahead
}

// P11.6: a record that ends just at the content's end is there; of one whose last byte, or more of it, would stand behind it, none is.
func TestDecodeAtTheEnd(t *testing.T) {
	for _, r := range recs(rec(3, "k", ""), rec(3, "k", "v"), rec(3, letters(64), ""), rec(15, "key", letters(300)), rec(3, letters(64), letters(900))) {
		for missing := range len(wordsBytes(r)) {
			content, ahead := cutAt(r, missing)
			what := fmt.Sprintf("%s, %d bytes missing", told(recs(r)), missing)
			if missing == 0 {
				isDecoded(t, what, len(ahead)+1, content, append(ahead, r), api.OK)
				isDecoded(t, what+", one more", len(ahead)+2, content, nil, api.ErrRecord)
			} else {
				isDecoded(t, what, len(ahead)+1, content, nil, api.ErrRecord)
			}
		}
	}
	content, ahead := cutAt(rec(3, "k", "v"), 6)
	isDecoded(t, "nothing of it stands there", len(ahead)+1, content, nil, api.ErrRecord)
	isDecoded(t, "nothing is left", len(ahead), content, ahead, api.OK)
}

// P11.6: one that doesn't stand behind the one ahead of it, by its table, its key or as the same place.
func TestDecodeOrder(t *testing.T) {
	for _, c := range []struct{ a, b api.Record }{
		{rec(2, "a", ""), rec(1, "b", "")}, {rec(1, "b", ""), rec(1, "a", "")},
		{rec(1, "ab", ""), rec(1, "a", "")}, {rec(1, "\x80", ""), rec(1, "\x7f", "")},
		{rec(1, "a\x00", ""), rec(1, "a", "")}, {rec(15, "a", ""), rec(0, "z", "")},
	} {
		isDecoded(t, "turned round", 2, laid(c.a, c.b), nil, api.ErrOrder)
		isDecoded(t, "in their order", 2, laid(c.b, c.a), recs(c.b, c.a), api.OK)
		isDecoded(t, "one place twice", 2, laid(c.a, rec(c.a.Table, string(c.a.Key), "v")), nil, api.ErrOrder)
		isDecoded(t, "the last of three", 3, laid(rec(0, "\x00", ""), c.a, c.b), nil, api.ErrOrder)
		isDecoded(t, "not next to one another", 3, laid(c.b, c.a, c.b), nil, api.ErrOrder)
	}
}

// P11.6: each byte behind the records.
func TestDecodeSlack(t *testing.T) {
	list := recs(rec(1, "a", "xy"), rec(2, "bc", ""))
	for at := 13; at < room; at++ {
		for _, x := range []byte{1, 128, 255} {
			b := laid(list...)
			b[at] = x
			isDecoded(t, fmt.Sprintf("%d at %d", x, at), 2, b, nil, api.ErrSlack)
		}
	}
	for at := range room {
		b := zeros(room)
		b[at] = 1
		isDecoded(t, fmt.Sprintf("1 at %d", at), 0, b, nil, api.ErrSlack)
	}
}

// P11.6: two faults, in both places: that of the earlier record is told; of one record, that it is none; slack last.
func TestDecodePairsOfFaults(t *testing.T) {
	low, mid, high := rec(1, "a", "x"), rec(5, "m", "y"), rec(9, "z", "")
	broken := recs(rec(16, "m", "y"), rec(255, "m", "y"), rec(5, "", "y"), rec(5, letters(65), "y"), rec(5, "m", letters(901)), rec(5, "", ""))
	slack := func(b []byte) []byte { b[room-1] = 1; return b }
	for _, none := range broken {
		isDecoded(t, "none, then out of order", 4, laid(low, none, high, mid), nil, api.ErrRecord)
		isDecoded(t, "out of order, then none", 4, laid(high, mid, none, high), nil, api.ErrOrder)
		isDecoded(t, "none, then none", 2, laid(none, none), nil, api.ErrRecord)
		isDecoded(t, "none, and slack", 2, slack(laid(low, none)), nil, api.ErrRecord)
		isDecoded(t, "none that is out of order too", 2, laid(rec(15, "z", ""), none), nil, api.ErrRecord)
	}
	isDecoded(t, "out of order, and slack", 2, slack(laid(high, low)), nil, api.ErrOrder)
	isDecoded(t, "out of order, then too few bytes", 200, laid(high, low), nil, api.ErrOrder)
	isDecoded(t, "out of order behind what is counted", 1, laid(high, low), nil, api.ErrSlack)
	isDecoded(t, "none behind what is counted", 1, laid(low, rec(16, "m", "")), nil, api.ErrSlack)
	isDecoded(t, "none, and too many", 9, laid(low, rec(16, "m", "")), nil, api.ErrRecord)
}

// P11.6: every byte of some contents as each of many others, and drawn changes of several, against the chapter's words.
func TestDecodeChangedContents(t *testing.T) {
	r := rand.New(rand.NewSource(3))
	seen := map[api.Errno]int{}
	for n := range 60 {
		list := drawnFitting(r, 1+n%9)
		content := laid(list...)
		for range 400 {
			b := joined(content)
			for range 1 + r.Intn(3) {
				b[r.Intn(1<<(1+r.Intn(9)))] = []byte{0, 1, 2, 3, 15, 16, 64, 65, byte(r.Intn(256))}[r.Intn(9)]
			}
			count := max(0, len(list)+r.Intn(3)-1)
			want, e := wordsDecode(count, b)
			isDecoded(t, fmt.Sprintf("content %d", n), count, b, want, e)
			seen[e]++
		}
	}
	for _, e := range []api.Errno{api.OK, api.ErrRecord, api.ErrOrder, api.ErrSlack} {
		if seen[e] < 100 {
			t.Errorf("error %d was drawn %d times", e, seen[e])
		}
	}
}

// P11.6: each single byte of a content, as each of the 256.
func TestDecodeEachByte(t *testing.T) {
	list := recs(rec(0, "a", "x"), rec(1, "aa", ""), rec(1, "ab", "yyy"), rec(15, "z", ""))
	content := laid(list...)
	for at := range 32 {
		for x := range 256 {
			b := joined(content)
			b[at] = byte(x)
			want, e := wordsDecode(len(list), b)
			isDecoded(t, fmt.Sprintf("%d at %d", x, at), len(list), b, want, e)
		}
	}
}
