package wal_test

import (
	"bytes"
	"math/rand"
	"testing"

	"lethe/api"
	"lethe/wal"
)

// P9.1: the list of pages and their bytes are as they were behind a Commit, whatever it answers, with their spare room and in their order.
func TestCommitLeavesItsPages(t *testing.T) {
	r := rand.New(rand.NewSource(14))
	for _, c := range []struct {
		what    string
		numbers []int
		step    int
	}{{"taken", []int{2, 0, 1}, 0}, {"refused", []int{2, 1, 2}, 0}, {"no place", []int{2, 1, 3}, 0}, {"given up", []int{2, 0, 1}, 9}} {
		d := zeroDisk(t, 13)
		l := opened(t, d, false)
		isOK(t, "Arm", d.Arm(c.step, api.Loss{}))
		list := make([]api.PageWrite, 0, 8)
		var copies [][]byte
		for _, n := range c.numbers {
			b := roomy(drawn(r, 1024))
			list = append(list, put(n, b))
			copies = append(copies, joined(whole(b)))
		}
		behind := whole(list)
		for k := len(list); k < len(behind); k++ {
			behind[k] = put(-5-k, full('~'))
		}
		l.Commit(list...)
		for k, n := range c.numbers {
			if list[k].Number != n || !bytes.Equal(whole(list[k].Bytes), copies[k]) {
				t.Errorf("%s: page %d of the list is another one", c.what, k)
			}
		}
		for k := len(list); k < len(behind); k++ {
			if behind[k].Number != -5-k || !bytes.Equal(behind[k].Bytes, full('~')) {
				t.Errorf("%s: something was written behind the list", c.what)
			}
		}
	}
}

// P9.1: nothing of a Commit's pages is kept: what is written into them behind it is not seen.
func TestCommitKeepsNothing(t *testing.T) {
	d := zeroDisk(t, 13)
	l := opened(t, d, false)
	b := full('b')
	list := []api.PageWrite{put(2, b), put(0, b)}
	isFault(t, "two pages of one array", l.Commit(list...), "Commit", 0, api.OK)
	before := take(d)
	for i := range b {
		b[i] = 'z'
	}
	list[0].Number, list[1].Number = 1, 1
	isAs(t, "written into", d, before)
	isRead(t, "written into", l, 2, full('b'))
	isRead(t, "written into", l, 0, full('b'))
	isRead(t, "written into", l, 1, make([]byte, 1024))
}

// P9.1, P9.7: pages whose bytes share an array, one with another's spare room, come home as they are.
func TestSharedArrays(t *testing.T) {
	array := drawn(rand.New(rand.NewSource(15)), 3000)
	want := joined(array)
	d := zeroDisk(t, 13)
	l := opened(t, d, false)
	isFault(t, "shared", l.Commit(put(1, array[512:1536]), put(0, array[:1024]), put(2, array[1024:2048])), "Commit", 0, api.OK)
	isRead(t, "shared", l, 0, want[:1024])
	isRead(t, "shared", l, 1, want[512:1536])
	isRead(t, "shared", l, 2, want[1024:2048])
	if !bytes.Equal(array, want) {
		t.Errorf("the shared array is another one")
	}
}

// P9.1: what Read hands out is new memory, spare room too: nobody sees what is written into it.
func TestReadHandsOutNewMemory(t *testing.T) {
	image := someHomes(rand.New(rand.NewSource(16)), 13)
	d := loaded(t, image)
	l := opened(t, d, false)
	first, _ := l.Read(1)
	second, _ := l.Read(1)
	next, _ := l.Read(2)
	for i := range whole(first) {
		whole(first)[i] ^= 0xff
	}
	_ = append(next, full('n')...)
	if !bytes.Equal(second, image[512*9:512*11]) {
		t.Errorf("two answers share memory")
	}
	isRead(t, "written into", l, 1, image[512*9:512*11])
	isRead(t, "written into", l, 2, image[512*11:512*13])
	isAs(t, "written into", d, taken{image: image})
}

// P9.1, P9.5: a Fault is new each time; what a caller writes into one changes no later answer, and doesn't open an ended log.
func TestFaultsAreNew(t *testing.T) {
	d := zeroDisk(t, 13)
	l := opened(t, d, false)
	refused := l.Commit(put(7, full('a')))
	refused.(*api.Fault).Err = api.ErrTag
	isFault(t, "refused again", l.Commit(put(7, full('a'))), "Commit", 0, api.ErrPlace)
	isOK(t, "Crash", d.Crash(api.Loss{}))
	_, first := l.Read(0)
	_, second := l.Read(0)
	if first == second || l.Err() != first {
		t.Errorf("one Fault for two answers, or Err is not the first: %v", l.Err())
	}
	*first.(*api.Fault) = api.Fault{Call: "x", At: 5, Err: api.ErrTag}
	isOK(t, "Up", d.Up())
	isNotRead(t, "ended", l, 0, 0, api.ErrDown)
	isFault(t, "ended", l.Commit(), "Commit", 0, api.ErrDown)
	if l.Err() != first {
		t.Errorf("Err is another one: %v", l.Err())
	}
}

// P9.1, P9.10: what a call answers hangs on the disk alone: two disks of one image go the same way, whatever was opened in between.
func TestSameAgain(t *testing.T) {
	r := rand.New(rand.NewSource(17))
	image := joined(sector(map[int]byte{0: 6, 511: 1}), drawn(r, 13*512))
	var first taken
	for k := range 3 {
		d := loaded(t, image)
		opened(t, d, true)
		if k == 0 {
			first = take(d)
		}
		isAs(t, "the same again", d, first)
		if err := wal.Clear(loaded(t, drawn(r, 512*(5+k)))); err != nil {
			t.Errorf("Clear: %v", err)
		}
	}
}
