package parcel_test

import (
	"fmt"
	"math"
	"strings"
	"testing"

	"lethe/parcel"
)

// P26.1: New at every number from below 1 to above 64, and far off.
func TestNew(t *testing.T) {
	numbers := []int{math.MinInt, math.MinInt + 1, math.MinInt + 2, -1 << 32, -1<<32 + 1, math.MinInt32, -1 << 16, -256, -255, -64, -2, -1, 128, 255, 256, 257, 1 << 16, 1<<16 + 1, math.MaxInt32, 1 << 31, 1 << 32, 1<<32 + 1, 1<<32 + 64, 1 << 62, math.MaxInt - 1, math.MaxInt}
	for most := range 70 {
		numbers = append(numbers, most)
	}
	for _, most := range numbers {
		x, e := parcel.New(most)
		right := most >= 1 && most <= maxParcel
		if right && (x == nil || e != 0 || x.Len() != 0) {
			t.Errorf("P26.1: New(%d): error %d, tray %v", most, e, x)
		}
		if !right && (x != nil || e != limits) {
			t.Errorf("P26.1: New(%d): error %d, tray %v, want %d", most, e, x, limits)
		}
	}
}

// P26.1: a peer's name has 1 to 16 bytes, any ones, in each call that asks for it.
func TestNames(t *testing.T) {
	part := split(t, 7, "text")[0]
	half := split(t, 8, sample(room+1, 1))[0]
	for _, name := range someNames() {
		b := newBench(t, 2)
		b.isCode("a name", b.take("none there", name, 7), unknown)
		b.isCode("a name", b.missing("none there", name, 7), unknown)
		b.isCode("a name", b.add("first", name, half), 0)
		b.isCode("a name", b.add("first", name, part), 0)
		b.isCode("a name", b.take("not whole", name, 8), notWhole)
		b.isCode("a name", b.take("whole", name, 7), 0)
		b.isCount("a name", b.drop("one there", name), 1)
	}
	b := newBench(t, 2)
	b.addAll("ahead", "n", part, half)
	for _, name := range wrongNames() {
		for _, x := range []*bench{newBench(t, 2), b} {
			b.isCode("no name", x.add("no name", name, part), noName)
			b.isCode("no name", x.add("no name", name, half), noName)
			for _, id := range []uint32{0, 7, 8, math.MaxUint32} {
				b.isCode("no name", x.take("no name", name, id), noName)
				b.isCode("no name", x.missing("no name", name, id), noName)
			}
			b.isCount("any name", x.drop("no name", name), 0)
		}
	}
	b.isCode("still there", b.take("still there", "n", 7), 0)
}

// P26.1: bytes of every number, of one byte, all alike, and of a part that is cut or has bytes behind.
func TestNoPartLengths(t *testing.T) {
	b := newBench(t, 4)
	whole, two, none := split(t, 1, sample(room, 1)), split(t, 2, sample(2*room, 2)), split(t, 3, "")
	for _, part := range []string{whole[0], two[0], two[1], none[0]} {
		for n := range 15 {
			b.isCode("too short", b.add("too short", "bob", part[:n]), noPart)
		}
		for _, more := range []int{1, 2, 15, 256, 512, 1 << 16, 1<<20 + 1} {
			long := part + strings.Repeat("\x00", 512-len(part)+more)
			b.isCode("too long", b.add("too long", "bob", long), noPart)
		}
	}
	for n := range 515 {
		for _, c := range []string{"\x00", "\x05", "\x01", "\xff"} {
			b.isCode("no part", b.add("all alike", "bob", strings.Repeat(c, n)), noPart)
		}
	}
	b.isCode("no bytes", b.add("no bytes", "bob", ""), noPart)
	if _, _, e := b.x.Add("bob", nil); e != noPart {
		t.Errorf("Rule 4: Add of nil: error %d, want %d", e, noPart)
	}
	b.isCount("none is there", b.x.Len(), 0)
}

// P26.1: a first byte that is not 05.
func TestNoPartMark(t *testing.T) {
	b := newBench(t, 2)
	for _, part := range []string{split(t, 7, "")[0], split(t, 7, sample(room+1, 1))[0]} {
		for c := range 256 {
			want := noPart
			if c == 5 {
				want = 0
			}
			b.isCode(fmt.Sprintf("first byte %02x", c), b.add("mark", "bob", turned(part, 0, byte(c))), want)
			b.drop("mark", "bob")
		}
	}
}

// P26.1: every number of parts with every index, with contents of all lengths that matter.
func TestNoPartPlaces(t *testing.T) {
	x, _ := parcel.New(1)
	for _, size := range []int{0, 1, 2, room - 1, room, room + 1} {
		content := sample(size, 3)
		for many := range 256 {
			for index := range 256 {
				part := written(7, many, index, wordsSum(content), content)
				id, whole, e := x.Add("bob", []byte(part))
				w := &words{most: 1}
				wantID, wantWhole, code := w.add("bob", part)
				if id != wantID || whole != wantWhole || e != code {
					t.Fatalf("P26.1: part %d of %d, %d bytes: %d, %v, error %d, want %d, %v, %d", index, many, size, id, whole, e, wantID, wantWhole, code)
				}
				if x.Drop("bob") != len(w.list) {
					t.Fatalf("P26.1: part %d of %d, %d bytes: error %d, and it is not there, or it is", index, many, size, e)
				}
			}
		}
	}
}

// P26.1: contents of every length at the first, an inner and the last place, and of the only part.
func TestNoPartContents(t *testing.T) {
	for _, place := range [][2]int{{1, 0}, {2, 0}, {2, 1}, {3, 0}, {3, 1}, {3, 2}, {64, 0}, {64, 31}, {64, 62}, {64, 63}} {
		b := newBench(t, 1)
		many, index := place[0], place[1]
		for size := range room + 3 {
			content := sample(size, 4)
			right := size == room || size < room && index == many-1 && (size > 0 || many == 1)
			want := noPart
			if right {
				want = 0
			}
			what := fmt.Sprintf("part %d of %d, %d bytes", index, many, size)
			b.isCode(what, b.add(what, "bob", written(9, many, index, wordsSum(content), content)), want)
			b.drop(what, "bob")
		}
	}
}

// P26.1: a part of another number of parts or of another sum, whatever its index, and each byte of the sum.
func TestOtherParcel(t *testing.T) {
	text := sample(3*room, 5)
	parts, sum := split(t, 7, text), wordsSum(text)
	b := newBench(t, 2)
	b.addAll("ahead", "bob", parts[1])
	for at := 7; at < 15; at++ {
		for index := range 3 { // index 1 has come: the sum is asked ahead of that
			b.isCode("another sum", b.add("another sum", "bob", flipped(parts[index], at)), noPart)
			b.isCode("another sum", b.add("another sum", "bob", turned(parts[index], at, parts[index][at]^0x80)), noPart)
		}
	}
	for many := 1; many <= maxParcel; many++ {
		for index := range many {
			if many == 3 {
				continue
			}
			b.isCode("another number", b.add("another number", "bob", written(7, many, index, sum, sample(room, 6))), noPart)
		}
	}
	b.addAll("behind", "bob", parts[2])
	b.isCode("another sum, the last part", b.add("last", "bob", flipped(parts[0], 14)), noPart)
	b.addAll("behind", "bob", parts[0])
	b.isCode("another sum, whole", b.add("whole", "bob", flipped(parts[0], 14)), noPart)
	b.isCode("another number, whole", b.add("whole", "bob", written(7, 1, 0, sum, "")), noPart)
	b.isCode("whole", b.take("whole", "bob", 7), 0)
}

// P26.1: a part that has come already, with its content or another one, also of a whole parcel, and of one of no bytes.
func TestTwice(t *testing.T) {
	for _, size := range []int{0, 1, room, room + 1, 4 * room, 4*room + 7, longest} {
		b := newBench(t, 1)
		parts := split(t, 7, sample(size, 7))
		for i, part := range parts {
			b.addAll("first", "bob", part)
			for k := range i + 1 {
				b.isCode("again", b.add("again", "bob", parts[k]), twice)
			}
			if len(part) > 15 {
				b.isCode("again with another content", b.add("again", "bob", flipped(part, 15)), twice)
				b.isCode("again with another content", b.add("again", "bob", flipped(part, len(part)-1)), twice)
			}
		}
		b.isCode("whole", b.take("whole", "bob", 7), 0)
	}
}

// P26.1: the last part's other lengths are parts too: they come twice, or spoil the sum.
func TestLastPartOfAnotherLength(t *testing.T) {
	text := sample(room+9, 8)
	parts := split(t, 7, text)
	b := newBench(t, 1)
	b.addAll("ahead", "bob", parts[0])
	for size := 1; size <= room; size++ {
		if size == 9 {
			continue
		}
		other := written(7, 2, 1, wordsSum(text), (text[room:] + sample(room, 9))[:size])
		b.isCode("another length", b.add("another length", "bob", other), badSum)
	}
	b.addAll("the right one", "bob", parts[1])
	b.isCode("whole", b.add("again", "bob", parts[1][:16]), twice)
	b.isCode("whole", b.take("whole", "bob", 7), 0)
}

// P26.1, P26.3: with the last part the text has another sum: it is refused, and the right one is taken then. (Of a parcel of one part nothing is there until then.)
func TestSum(t *testing.T) {
	for _, size := range []int{1, 2, room, room + 1, 3 * room, longest - 1} {
		parts := split(t, 7, sample(size, 10))
		for _, last := range []int{0, len(parts) / 2, len(parts) - 1} {
			b := newBench(t, 1)
			found, count := unknown, 0
			for i, part := range parts {
				if i != last {
					b.addAll("ahead", "bob", part)
					found, count = notWhole, 1
				}
			}
			for at := 15; at < len(parts[last]); at += 1 + len(parts[last])/7 {
				b.isCode("another content", b.add("another content", "bob", flipped(parts[last], at)), badSum)
				b.isCode("another content", b.take("another content", "bob", 7), found)
				b.isCount("another content", b.x.Len(), count)
			}
			b.addAll("the right one", "bob", parts[last])
			b.isCode("whole", b.take("whole", "bob", 7), 0)
		}
	}
}

// P26.3: a wrong content that came ahead of the last part stays, and no right part makes the parcel whole; behind Drop all is well.
func TestWrongContentAhead(t *testing.T) {
	parts := split(t, 7, sample(2*room+1, 11))
	for wrong := range parts {
		b := newBench(t, 1)
		b.addAll("the wrong one", "bob", flipped(parts[wrong], 15))
		b.isCode("the right one", b.add("too late", "bob", parts[wrong]), twice)
		rest := append(append([]string{}, parts[:wrong]...), parts[wrong+1:]...)
		b.addAll("the next one", "bob", rest[0])
		for range 3 {
			b.isCode("the last one", b.add("the last one", "bob", rest[1]), badSum)
			b.isCode("not whole", b.take("the last one", "bob", 7), notWhole)
		}
		b.isCount("given up", b.drop("given up", "bob"), 1)
		b.addAll("anew", "bob", parts...)
		b.isCode("whole", b.take("anew", "bob", 7), 0)
	}
}

// P26.1, P26.3: a sum that is the text's in all bytes but one is another one: the text's own digest's further bytes too.
func TestSumByteByByte(t *testing.T) {
	for _, text := range []string{"", "x", sample(room, 12)} {
		for at := 7; at < 15; at++ {
			b := newBench(t, 1)
			part := split(t, 7, text)[0]
			for bit := range 8 {
				b.isCode("another sum", b.add("another sum", "bob", turned(part, at, part[at]^1<<bit)), badSum)
			}
			b.addAll("the right one", "bob", part)
		}
	}
}

// P26.1: each error ahead of those that are named behind it.
func TestErrorsTogether(t *testing.T) {
	text, long := sample(2*room, 13), strings.Repeat("n", 17)
	parts, sum := split(t, 7, text), wordsSum(text)
	wrong := written(8, 1, 0, sum, "x") // whole with it, and of another sum
	b := newBench(t, 1)
	for _, name := range []string{"", long} {
		b.isCode("no name, no part", b.add("together", name, "x"), noName)
		b.isCode("no name, another sum", b.add("together", name, wrong), noName)
	}
	b.isCode("another sum alone", b.add("together", "bob", wrong), badSum)
	b.addAll("ahead", "bob", parts[1])
	for _, name := range []string{"", long} {
		b.isCode("no name, full", b.add("together", name, parts[0]), noName)
		b.isCode("no name, no part, full", b.add("together", name, ""), noName)
		b.isCode("no name, no parcel", b.take("together", name, 9), noName)
	}
	b.isCode("no part, full", b.add("together", "eve", parts[0][:511]), noPart)
	b.isCode("no part of a parcel that is there, come already", b.add("together", "bob", parts[1]+"x"), noPart)
	b.isCode("another parcel's part, come already", b.add("together", "bob", flipped(parts[1], 7)), noPart)
	b.isCode("another number of parts, come already", b.add("together", "bob", written(7, 64, 1, sum, text[:room])), noPart)
	b.isCode("another parcel's part, another sum of the text", b.add("together", "bob", flipped(flipped(parts[0], 7), 15)), noPart)
	b.isCode("come already, full", b.add("together", "bob", parts[1]), twice)
	b.isCode("come already, another sum", b.add("together", "bob", flipped(parts[1], 15)), twice)
	b.isCode("full, another sum", b.add("together", "bob", wrong), full)
	b.isCode("full, another sum", b.add("together", "eve", wrong), full)
	b.isCode("full tray, a part of its parcel, another sum", b.add("together", "bob", flipped(parts[0], 15)), badSum)
	b.isCode("full tray, a part of its parcel", b.add("together", "bob", parts[0]), 0)
	b.isCode("whole, come already", b.add("together", "bob", parts[0]), twice)
	b.isCode("whole, another parcel's part", b.add("together", "bob", flipped(parts[0], 9)), noPart)
	b.isCode("whole, full", b.add("together", "eve", parts[0]), full)
}
