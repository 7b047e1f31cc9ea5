package page_test

import (
	"bytes"
	"encoding/hex"
	"fmt"
	"math"
	"math/rand"
	"testing"

	"lethe/api"
	"lethe/page"
)

// joined: new memory, whatever room lies behind the parts.
func joined(parts ...[]byte) []byte { return bytes.Join(parts, nil) }

func zeros(n int) []byte { return make([]byte, n) }

func unhex(t *testing.T, s string) []byte {
	t.Helper()
	b, err := hex.DecodeString(s)
	if err != nil {
		t.Fatal(err)
	}
	return b
}

// drawn: n bytes, none of them zero, so that content is told from the zeros behind it.
func drawn(r *rand.Rand, n int) []byte {
	b := make([]byte, n)
	for i := range b {
		b[i] = byte(1 + r.Intn(255))
	}
	return b
}

// whole: a list with its spare room.
func whole[T any](list []T) []T { return list[:cap(list)] }

// roomy: the same bytes, with room behind them that is not zero.
func roomy(b []byte) []byte { return joined(b, bytes.Repeat([]byte{0x5a}, 1100))[:len(b)] }

// farNumbers: numbers whose low bits or products could be taken for small ones.
func farNumbers() []int {
	return []int{math.MinInt, math.MinInt + 1, -1 << 32, -1<<32 + 1, -65536, -65535, -256, -255, -2, -1, 65537, 1 << 16, 1<<16 + 2, 1 << 31, 1 << 32, 1<<32 + 1, 1 << 48, 1<<62 + 1, math.MaxInt - 1, math.MaxInt}
}

// wordsSum: the checksum as the chapter words it, bit by bit.
func wordsSum(b []byte) uint32 {
	register := uint32(0xffffffff)
	for _, c := range b {
		register ^= uint32(c)
		for range 8 {
			if register&1 == 1 {
				register = register>>1 ^ 0x82f63b78
			} else {
				register >>= 1
			}
		}
	}
	return register ^ 0xffffffff
}

// two, four: a number, the highest byte first.
func two(n int) []byte     { return []byte{byte(n >> 8), byte(n)} }
func four(n uint32) []byte { return []byte{byte(n >> 24), byte(n >> 16), byte(n >> 8), byte(n)} }

// plan: a page told by its fields, right or wrong. Sum is XORed into the right checksum, size is added to the page's length.
type plan struct {
	mark, kind, number, count, length int
	slack                             uint32
	sum                               uint32
	rest                              []byte // the head's followers; zeros are put behind it
	size                              int
	asked                             int // by Open
}

// bytes: the plan's page.
func (p plan) bytes() []byte {
	ahead := joined([]byte{byte(p.mark), byte(p.kind)}, two(p.number), two(p.count), two(p.length), four(p.slack))
	behind := joined(p.rest, zeros(1008-len(p.rest)))
	sum := wordsSum(joined(ahead, zeros(4), behind)) ^ p.sum
	b := joined(ahead, four(sum), behind)
	if p.size < 0 {
		return b[:len(b)+p.size]
	}
	return joined(b, zeros(p.size))
}

// recordsPlan: a right page of records.
func recordsPlan(number, count int, content []byte) plan {
	return plan{mark: 0xd6, kind: 2, number: number, count: count, length: len(content), rest: content, asked: number}
}

// headPlan: a right first page.
func headPlan(pages, used int, records uint32) plan {
	return plan{mark: 0xd6, kind: 1, length: 8, rest: joined(two(pages), two(used), four(records))}
}

// resealed: the same page with a checksum that fits it.
func resealed(b []byte) []byte {
	c := joined(b)
	copy(c[12:16], zeros(4))
	copy(c[12:16], four(wordsSum(c)))
	return c
}

func number(b []byte) int {
	n := 0
	for _, c := range b {
		n = n<<8 | int(c)
	}
	return n
}

func isBlank(b []byte) bool { return bytes.Equal(b, zeros(len(b))) }

// wordsCommon: what P10.4 and P10.6 ask for alike.
func wordsCommon(b []byte, kind byte) api.Errno {
	if len(b) != 1024 {
		return api.ErrSize
	}
	if b[0] != 0xd6 {
		return api.ErrMark
	}
	if b[1] != kind {
		return api.ErrKind
	}
	if !bytes.Equal(b, resealed(b)) {
		return api.ErrSum
	}
	return api.OK
}

// wordsOpen: P10.4, sentence by sentence.
func wordsOpen(b []byte, asked int) (int, []byte, api.Errno) {
	if e := wordsCommon(b, 2); e != api.OK {
		return 0, nil, e
	}
	stands, count, length := number(b[2:4]), number(b[4:6]), number(b[6:8])
	if stands != asked {
		return 0, nil, api.ErrPage
	}
	if stands < 1 || stands > 249 || count == 0 {
		return 0, nil, api.ErrPlace
	}
	if !isBlank(b[8:12]) {
		return 0, nil, api.ErrSlack
	}
	if length == 0 {
		return 0, nil, api.ErrEmpty
	}
	if length > 1008 {
		return 0, nil, api.ErrLong
	}
	if !isBlank(b[16+length:]) {
		return 0, nil, api.ErrSlack
	}
	return count, joined(b[16 : 16+length]), api.OK
}

// wordsOpenHead: P10.6, sentence by sentence.
func wordsOpenHead(b []byte) (int, int, int, api.Errno) {
	if e := wordsCommon(b, 1); e != api.OK {
		return 0, 0, 0, e
	}
	if !isBlank(b[2:6]) || !isBlank(b[8:12]) || !isBlank(b[24:]) {
		return 0, 0, 0, api.ErrSlack
	}
	if number(b[6:8]) != 8 {
		return 0, 0, 0, api.ErrSize
	}
	pages, used, records := number(b[16:18]), number(b[18:20]), number(b[20:24])
	if pages < 1 || pages > 250 || used > pages-1 || records > 65535*used {
		return 0, 0, 0, api.ErrPlace
	}
	return pages, used, records, api.OK
}

// made: a page that must be taken.
func made(t *testing.T, number, count int, content []byte) []byte {
	t.Helper()
	b, e := page.Make(number, count, content)
	if e != api.OK {
		t.Fatalf("Make(%d, %d, %d bytes): error %d", number, count, len(content), e)
	}
	return b
}

func madeHead(t *testing.T, pages, used, records int) []byte {
	t.Helper()
	b, e := page.Head(pages, used, records)
	if e != api.OK {
		t.Fatalf("Head(%d, %d, %d): error %d", pages, used, records, e)
	}
	return b
}

// isBytes: of OK just these bytes, of an error none.
func isBytes(t *testing.T, what string, b []byte, e api.Errno, want []byte, code api.Errno) {
	t.Helper()
	if code != api.OK {
		want = nil
	}
	if e != code || !bytes.Equal(b, want) {
		t.Errorf("%s: error %d, %d bytes that begin with %x; want %d, %x", what, e, len(b), b[:min(24, len(b))], code, want[:min(24, len(want))])
	}
}

func isOpened(t *testing.T, what string, b []byte, asked, count int, content []byte, code api.Errno) {
	t.Helper()
	n, c, e := page.Open(b, asked)
	if code != api.OK {
		count = 0
	}
	if n != count {
		t.Errorf("%s: Open: count %d, want %d", what, n, count)
	}
	isBytes(t, what+": Open", c, e, content, code)
}

func isRefused(t *testing.T, what string, b []byte, asked int, code api.Errno) {
	t.Helper()
	isOpened(t, what, b, asked, 0, nil, code)
}

func isHead(t *testing.T, what string, b []byte, pages, used, records int, code api.Errno) {
	t.Helper()
	p, u, r, e := page.OpenHead(b)
	if p != pages || u != used || r != records || e != code {
		t.Errorf("%s: OpenHead: %d, %d, %d, error %d; want %d, %d, %d, %d", what, p, u, r, e, pages, used, records, code)
	}
}

func isNoHead(t *testing.T, what string, b []byte, code api.Errno) {
	t.Helper()
	isHead(t, what, b, 0, 0, 0, code)
}

// fault: one thing that is wrong with a page, and what is told of it.
type fault struct {
	what  string
	spoil func(*plan)
	code  api.Errno
}

// inAllSets: every set of the faults, which stand in the order in which they are looked for: the first of each set is told.
func inAllSets(good plan, faults []fault, try func(what string, p plan, code api.Errno)) {
	for set := range 1 << len(faults) {
		p, code, what := good, api.OK, ""
		for k := len(faults) - 1; k >= 0; k-- {
			if set>>k&1 == 1 {
				faults[k].spoil(&p)
				code = faults[k].code
				what = faults[k].what + ", " + what
			}
		}
		try(fmt.Sprintf("set %d: %s", set, what), p, code)
	}
}
