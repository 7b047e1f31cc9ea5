package audit_test

import (
	"fmt"
	"math/rand"
	"slices"
	"testing"

	"lethe/api"
)

// drawnState: bytes of a state that may be, or nearly.
func drawnState(r *rand.Rand) string {
	kinds := []string{
		stateBytes(0, 0, 0, 0, 0, 0, false), stateBytes(1, 0, 2, 2, 0, 0, true), stateBytes(1, 0, 0, 0, 0, 0, false),
		stateBytes(0, 1, 0, 0, 0, 5, false), stateBytes(1, 1, 3, 3, 0, 1, false), stateBytes(2, 1, 9, 1, 2, 1, false),
	}
	b := []byte(kinds[r.Intn(len(kinds))])
	for i := range b {
		if i >= 1 && i < 209 && b[i] > 0 {
			b[i] = byte(r.Intn(256))
		}
	}
	switch r.Intn(4) {
	case 0:
		b[209+r.Intn(len(b)-209)] = byte(r.Intn(3))
	case 1:
		b = b[:r.Intn(len(b)+1)]
	}
	return string(b)
}

func drawnValue(r *rand.Rand, table int) string {
	size := []int{0, 1, 4, 14, 31, 32, 33, 63, 64, 65, 200, 222, 400}[r.Intn(13)]
	switch {
	case table == 4 && r.Intn(4) > 0:
		return drawnState(r)
	case (table == 2 || table == 3) && r.Intn(2) == 0:
		size = 64
	case table == 5 && r.Intn(2) == 0:
		size = 32
	}
	b := make([]byte, size)
	for i := range b {
		b[i] = byte(r.Intn(256)) & byte(r.Intn(256))
	}
	return string(b)
}

func drawnRecord(r *rand.Rand) api.Record {
	table := r.Intn(9)
	if r.Intn(8) == 0 {
		table = r.Intn(16)
	}
	key := make([]byte, 1+r.Intn(3))
	for i := range key {
		key[i] = byte(r.Intn(6))
	}
	return rec(table, string(key), drawnValue(r, table))
}

// drawnList: sorted, each place once.
func drawnList(r *rand.Rand, most int) []api.Record {
	var list []api.Record
	for range r.Intn(most + 1) {
		list = append(list, drawnRecord(r))
	}
	slices.SortStableFunc(list, func(a, b api.Record) int {
		switch {
		case wordsAhead(a, b):
			return -1
		case wordsAhead(b, a):
			return 1
		}
		return 0
	})
	return slices.CompactFunc(list, func(a, b api.Record) bool { return !wordsAhead(a, b) && !wordsAhead(b, a) })
}

// drawnSplit: a list in pages, as full as pack would have them or less; no more pages than most.
func drawnSplit(r *rand.Rand, list []api.Record, most int) [][]api.Record {
	early := r.Intn(3) == 0
	var used [][]api.Record
	left := 0
	for _, k := range list {
		n := len(bytesOf(k))
		if len(used) == 0 || n > left || early && r.Intn(4) == 0 && len(used) < most {
			if len(used) == most {
				break
			}
			used, left = append(used, nil), 1008
		}
		used[len(used)-1] = append(used[len(used)-1], k)
		left -= n
	}
	return used
}

// dirtied: bytes in the log, or anywhere behind the used pages, which bar nothing.
func dirtied(r *rand.Rand, image []byte, used int) []byte {
	p := wordsRoom(len(image) / 512)
	b := slices.Clone(image)
	for range r.Intn(4) {
		at := r.Intn(wordsHome(p, 0))
		if end := wordsHome(p, used+1); end < len(b) && r.Intn(2) == 0 {
			at = end + r.Intn(len(b)-end)
		}
		for range 1 + r.Intn(5) {
			if at < wordsHome(p, 0) || at >= wordsHome(p, used+1) && at < len(b) {
				b[at] = byte(r.Intn(256))
			}
			at++
		}
	}
	return b
}

// spoilt: something in a head or a page is another byte, or two pages stand in each other's home; often the checksum fits all the same.
func spoilt(r *rand.Rand, image []byte, used int) []byte {
	p := wordsRoom(len(image) / 512)
	b := slices.Clone(image)
	n := r.Intn(used + 1)
	lo, hi := wordsHome(p, n), wordsHome(p, n+1)
	switch r.Intn(6) {
	case 0:
		m := wordsHome(p, r.Intn(used+1))
		copy(b[lo:hi], image[m:m+1024])
		copy(b[m:m+1024], image[lo:hi])
		return b
	case 1:
		b[lo+r.Intn(1024)] ^= byte(1 << r.Intn(8))
		return b
	}
	for range 1 + r.Intn(2) {
		at := lo + r.Intn([]int{8, 24, 40, 1024}[r.Intn(4)])
		b[at] = []byte{0, 1, 2, 3, 4, 8, 16, 0xd6, byte(r.Intn(256))}[r.Intn(9)]
	}
	return laid(b, lo, sealed(b[lo:hi]))
}

// drawnCut: bytes of another length.
func drawnCut(r *rand.Rand, image []byte) []byte {
	switch r.Intn(4) {
	case 0:
		return image[:r.Intn(len(image))]
	case 1:
		return image[:512*r.Intn(len(image)/512)]
	case 2:
		return joined(image, zeros(512*(1+r.Intn(4))))
	}
	return image[512:]
}

// P27.1 to P27.5, P27.7, P27.8: drawn images, clean, dirty, spoilt and cut, against the chapter's words.
func TestDrawnImages(t *testing.T) {
	r := rand.New(rand.NewSource(2027))
	codes, clean, secrets, kinds := map[api.Errno]int{}, map[bool]int{}, 0, map[int]int{}
	for run := range 6000 {
		sectors := 5 + r.Intn(30)
		used := drawnSplit(r, drawnList(r, 20), wordsRoom(sectors)-1)
		image := imageOf(sectors, used...)
		if r.Intn(2) == 0 {
			image = dirtied(r, image, len(used))
		}
		if r.Intn(3) == 0 {
			image = spoilt(r, image, len(used))
		}
		if r.Intn(12) == 0 {
			image = drawnCut(r, image)
		}
		codes[isAudited(t, fmt.Sprintf("run %d", run), image)]++
		a := ask(image)
		clean[a.clean]++
		secrets += len(a.secrets)
		for _, x := range a.regions {
			kinds[x.What]++
		}
		if t.Failed() {
			return
		}
	}
	for _, e := range []api.Errno{0, badPlace, tooLong, tooShort, badSize, noImage, noRoom, noMark, badSum, badPage, noKind, slack, noRecord, noOrder, noFormat} {
		if codes[e] == 0 {
			t.Errorf("error %d was never drawn", e)
		}
	}
	for what := blank; what <= stray; what++ {
		if kinds[what] < 500 {
			t.Errorf("regions of %d were drawn %d times", what, kinds[what])
		}
	}
	if clean[true] < 1000 || clean[false] < 1000 || secrets < 1000 {
		t.Errorf("drawn: %d clean, %d not, %d secrets", clean[true], clean[false], secrets)
	}
}
