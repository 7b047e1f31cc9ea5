package audit_test

import (
	"bytes"
	"hash/crc32"
	"strings"

	"lethe/api"
)

// The chapters' sentences, made without any of what the program uses.

// wordsRoom: the greatest number up to 250 for which 4 p + 1 is at most s (chapter 9).
func wordsRoom(s int) int {
	p := 0
	for p < 250 && 4*(p+1)+1 <= s {
		p++
	}
	return p
}

// wordsHome: where page n's home begins: at sector 1 + 2p + 2n.
func wordsHome(p, n int) int { return 512 * (1 + 2*p + 2*n) }

func number(b []byte) int {
	n := 0
	for _, c := range b {
		n = 256*n + int(c)
	}
	return n
}

func allZeros(b []byte) bool { return bytes.Equal(b, zeros(len(b))) }

// wordsSum: CRC-32C of the page with its own four bytes as 00, by Go's own library.
func wordsSum(b []byte) []byte {
	c := joined(b[:12], zeros(4), b[16:])
	return four(crc32.Checksum(c, crc32.MakeTable(crc32.Castagnoli)))
}

// wordsOpening: what chapter 10 asks first of both kinds of pages.
func wordsOpening(b []byte, kind byte) api.Errno {
	switch {
	case b[0] != 0xd6:
		return noMark
	case b[1] != kind:
		return noKind
	case !bytes.Equal(b[12:16], wordsSum(b)):
		return badSum
	}
	return 0
}

// wordsOpenHead: P10.6, of a page's bytes.
func wordsOpenHead(b []byte) (pages, used, records int, e api.Errno) {
	if e := wordsOpening(b, 1); e != 0 {
		return 0, 0, 0, e
	}
	if !allZeros(b[2:6]) || !allZeros(b[8:12]) || !allZeros(b[24:]) {
		return 0, 0, 0, slack
	}
	if number(b[6:8]) != 8 {
		return 0, 0, 0, badSize
	}
	pages, used, records = number(b[16:18]), number(b[18:20]), number(b[20:24])
	if pages < 1 || pages > 250 || used > pages-1 || records > 65535*used {
		return 0, 0, 0, badPlace
	}
	return pages, used, records, 0
}

// wordsOpen: P10.4, of a page's bytes.
func wordsOpen(b []byte, n int) (count int, content []byte, e api.Errno) {
	if e := wordsOpening(b, 2); e != 0 {
		return 0, nil, e
	}
	count, length := number(b[4:6]), number(b[6:8])
	switch {
	case number(b[2:4]) != n:
		return 0, nil, badPage
	case n < 1 || n > 249 || count == 0:
		return 0, nil, badPlace
	case !allZeros(b[8:12]):
		return 0, nil, slack
	case length == 0:
		return 0, nil, empty
	case length > 1008:
		return 0, nil, tooLong
	case !allZeros(b[16+length:]):
		return 0, nil, slack
	}
	return count, b[16 : 16+length], 0
}

// wordsAhead: does a stand ahead of b? (chapter 11)
func wordsAhead(a, b api.Record) bool {
	return a.Table < b.Table || a.Table == b.Table && string(a.Key) < string(b.Key)
}

// wordsDecode: P11.6.
func wordsDecode(count int, content []byte) ([]api.Record, api.Errno) {
	if len(content) < 1008 {
		return nil, tooShort
	}
	var list []api.Record
	rest := content
	for i := range count {
		if len(rest) < 2 || rest[0] > 15 || rest[1] < 1 || rest[1] > 64 {
			return nil, noRecord
		}
		valueAt := 2 + int(rest[1]) + 2
		if len(rest) < valueAt {
			return nil, noRecord
		}
		end := valueAt + number(rest[valueAt-2:valueAt])
		if end-valueAt > 900 || len(rest) < end {
			return nil, noRecord
		}
		r := rec(int(rest[0]), string(rest[2:valueAt-2]), string(rest[valueAt:end]))
		if i > 0 && !wordsAhead(list[i-1], r) {
			return nil, noOrder
		}
		list, rest = append(list, r), rest[end:]
	}
	if !allZeros(rest) {
		return nil, slack
	}
	return list, 0
}

// wordsRead: the records of each used page, or why the image can't be read, as the chapter's section 'Words' has it.
func wordsRead(image []byte) ([][]api.Record, api.Errno) {
	if len(image) == 0 || len(image) > 2097152 || 512*(len(image)/512) != len(image) {
		return nil, noImage
	}
	p := wordsRoom(len(image) / 512)
	if p == 0 {
		return nil, noRoom
	}
	page := func(n int) []byte { return image[wordsHome(p, n) : wordsHome(p, n)+1024] }
	pages, used, records, e := wordsOpenHead(page(0))
	if e != 0 {
		return nil, e
	}
	if pages != p {
		return nil, noFormat
	}
	var all [][]api.Record
	total := 0
	for n := 1; n <= used; n++ {
		count, content, e := wordsOpen(page(n), n)
		if e != 0 {
			return nil, e
		}
		list, e := wordsDecode(count, content)
		if e != 0 {
			return nil, e
		}
		if n > 1 && !wordsAhead(all[n-2][len(all[n-2])-1], list[0]) {
			return nil, noOrder
		}
		all, total = append(all, list), total+len(list)
	}
	if total != records {
		return nil, noFormat
	}
	return all, 0
}

func flat(pages [][]api.Record) []api.Record {
	var list []api.Record
	for _, page := range pages {
		list = append(list, page...)
	}
	return list
}

// times: a letter for each of so many bytes.
func times(letter string, n int) string { return strings.Repeat(letter, n) }

// The letters of bytes: F for Frame, P for Public, S for Secret.

// wordsState: the letters of a state's bytes; none, if state.Decode doesn't take it (chapter 18).
func wordsState(b []byte) string {
	if len(b) < 222 || b[0] != 1 {
		return ""
	}
	own, turns, serial := number(b[209:213]), number(b[213:217]), number(b[217:221])
	letters := times("F", 1) + times("P", 16) + times("P", 64) + times("S", 32) + times("S", 32) + times("P", 32) + times("P", 32) + times("F", 12)
	sent, prev := 0, 0
	if own > 0 {
		letters += times("S", 32) + times("F", 4) + times("F", 4)
		if len(b) < len(letters) {
			return ""
		}
		sent, prev = number(b[len(letters)-8:len(letters)-4]), number(b[len(letters)-4:len(letters)])
	}
	if turns > 0 {
		letters += times("S", 32) + times("F", 4)
	}
	letters += "F"
	if len(b) < len(letters) {
		return ""
	}
	mark := b[len(letters)-1]
	if mark == 1 {
		letters += times("P", 32) + times("F", 4)
	}
	if mark > 1 || len(b) != len(letters) {
		return ""
	}
	if !wordsMayBe(own, turns, serial, sent, prev, mark == 1, !allZeros(b[17:49])) {
		return ""
	}
	return letters
}

// wordsMayBe: the six rules of chapter 18, as far as bytes can break them: keys that don't count are not written, and a hello's identity is the first half of the bind.
func wordsMayBe(own, turns, serial, sent, prev int, hello, identity bool) bool {
	switch {
	case own-turns > 1 || turns-own > 1:
		return false
	case own == 0 && (serial != 0 || hello):
		return false
	case own == 1 && (prev != 0 || serial != sent):
		return false
	case own > 0 && (serial < sent || serial-sent < prev):
		return false
	case hello && (!identity || turns != 0):
		return false
	}
	return true
}

// wordsValue: the letters of a record's value, by the chapter's second table.
func wordsValue(r api.Record) string {
	n := len(r.Value)
	if r.Table == 1 || r.Table == 7 {
		return times("F", n)
	}
	if (r.Table == 2 || r.Table == 3) && n == 64 {
		return times("S", 32) + times("P", 32)
	}
	if r.Table == 4 && wordsState(r.Value) != "" {
		return wordsState(r.Value)
	}
	if r.Table == 5 && n == 32 {
		return times("S", 32)
	}
	return times("P", n)
}

// wordsKinds: what each byte of an image is, by the chapter's first table.
func wordsKinds(image []byte, used [][]api.Record) []int {
	p := wordsRoom(len(image) / 512)
	kinds := make([]int, len(image))
	for at, c := range image {
		switch {
		case c == 0:
			kinds[at] = blank
		case at < wordsHome(p, 0):
			kinds[at] = logPart
		default:
			kinds[at] = stray
		}
	}
	letters := map[int]string{wordsHome(p, 0): times("F", 24)}
	for i, list := range used {
		page := times("F", 16)
		for _, r := range list {
			page += "FF" + times("P", len(r.Key)) + "FF" + wordsValue(r)
		}
		letters[wordsHome(p, i+1)] = page
	}
	for at, page := range letters {
		for i, letter := range page {
			kinds[at+i] = frame + strings.IndexRune("FPS", letter)
		}
	}
	return kinds
}

// wordsSecrets: the bytes that are secret, cut where others stand between them, and then every 32.
func wordsSecrets(image []byte, kinds []int) []string {
	var all []string
	run := ""
	for at, kind := range append(kinds[:len(kinds):len(kinds)], 0) {
		if kind == secret {
			run += string(image[at : at+1])
			continue
		}
		for len(run) > 0 {
			n := min(32, len(run))
			all, run = append(all, run[:n]), run[n:]
		}
	}
	return all
}

// wordsSplit: a sorted list as the pages take it (chapter 11).
func wordsSplit(list []api.Record) [][]api.Record {
	var pages [][]api.Record
	left := 0
	for _, r := range list {
		n := len(bytesOf(r))
		if len(pages) == 0 || n > left {
			pages, left = append(pages, nil), 1008
		}
		pages[len(pages)-1] = append(pages[len(pages)-1], r)
		left -= n
	}
	return pages
}

// wordsLayout: the image of a disk of so many sectors with these records (chapter 12).
func wordsLayout(sectors int, list []api.Record) []byte {
	return imageOf(sectors, wordsSplit(list)...)
}
