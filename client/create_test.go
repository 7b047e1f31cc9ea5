package client_test

import (
	"bytes"
	"crypto/ecdh"
	"fmt"
	"math"
	"testing"

	"lethe/api"
	"lethe/client"
	"lethe/sectors"
)

// newRecords: those of a new client, out of the document's words.
func newRecords(lim api.Limits, draw []byte) []api.Record {
	var b []byte
	for _, n := range []int{lim.Peers, lim.Prekeys, lim.Skip, lim.Skips, lim.Outbox} {
		b = append(b, byte(n/256), byte(n%256))
	}
	priv := bytes.Clone(draw)
	priv[0], priv[31] = priv[0]&0xf8, priv[31]&0x3f|0x40
	own, err := ecdh.X25519().NewPrivateKey(priv)
	if err != nil {
		panic(err)
	}
	return []api.Record{
		rec(1, []byte{0}, joined(b, four(lim.Counter))),
		rec(2, []byte{0}, joined(priv, own.PublicKey().Bytes())),
		rec(7, []byte{0}, zeros(4)),
	}
}

// isCreated: a client with the records of a new one; what was handed in is as it was, and not kept.
func isCreated(t *testing.T, what string, d *sectors.Device, lim api.Limits, draw []byte) {
	t.Helper()
	lent := roomy(draw)
	c, err := client.Create(d, lim, lent)
	if err != nil || c == nil {
		t.Errorf("%s: Create: %v", what, err)
		return
	}
	if !bytes.Equal(whole(lent), whole(roomy(draw))) {
		t.Errorf("rule 2: %s: the draw, or what lies behind it, is another one", what)
	}
	spoil(lent)
	want := newRecords(lim, draw)
	isLaidOut(t, what, d, c, want)
	own, err := c.Identity()
	if err != nil || !bytes.Equal(own[:], want[1].Value[32:]) {
		t.Errorf("%s: Identity answers %x, %v", what, own, err)
	}
	again := opened(t, what, d)
	isLaidOut(t, what+", opened", d, again, want)
}

// isRefusedOver: no client, and nothing of the disk has changed.
func isRefusedOver(t *testing.T, what string, d *sectors.Device, want string, made func() (*client.Client, error)) {
	t.Helper()
	var image []byte
	var calls int
	if d != nil {
		image, calls = d.Image(), d.Calls()
	}
	c, err := made()
	isForm(t, what, err, want)
	if c != nil {
		t.Errorf("%s: a client beside an error", what)
	}
	if d != nil && (!bytes.Equal(d.Image(), image) || d.Calls() != calls) {
		t.Errorf("P22.3: %s: refused, and the disk has changed", what)
	}
}

// P22.1: disks of all small sizes: from two pages on there is room.
func TestCreateOnSizes(t *testing.T) {
	for size := 1; size <= 22; size++ {
		what := fmt.Sprintf("%d sectors", size)
		d := disk(t, size)
		made := func() (*client.Client, error) { return client.Create(d, someLimits(), draw(1)) }
		switch {
		case size < 5:
			isRefusedOver(t, what, d, "Create 0: Load 0: 92", made)
		case size < 9:
			isRefusedOver(t, what, d, "Create 0: Load 0: 120", made)
		default:
			isCreated(t, what, d, someLimits(), draw(1))
		}
	}
	isCreated(t, "the greatest disk", disk(t, api.MaxSectors), wide(), draw(2))
}

// limitsAt: limits with one number set.
func limitsAt(which, n int) api.Limits {
	lim := someLimits()
	switch which {
	case 0:
		lim.Peers = n
	case 1:
		lim.Prekeys = n
	case 2:
		lim.Skip = n
	case 3:
		lim.Skips = n
	case 4:
		lim.Outbox = n
	case 5:
		lim.Counter = uint32(n)
	}
	return lim
}

// P22.1: limits at their bounds and past them.
func TestCreateWithLimits(t *testing.T) {
	bounds := [][2]int{{1, 16}, {1, 64}, {0, 64}, {0, 256}, {1, 64}, {1, math.MaxUint32}}
	for which, bound := range bounds {
		for _, n := range []int{bound[0], bound[0] + 1, bound[1] - 1, bound[1]} {
			isCreated(t, fmt.Sprintf("limit %d as %d", which, n), disk(t, 9), limitsAt(which, n), draw(3))
		}
		past := []int{bound[0] - 1, bound[1] + 1, -1, math.MinInt, math.MaxInt, bound[1] + 1<<16, bound[1] + 1<<32}
		if which == 5 {
			past = []int{0} // of its type there is no number above the greatest
		}
		for _, n := range past {
			d := disk(t, 9)
			isRefusedOver(t, fmt.Sprintf("limit %d as %d", which, n), d, "Create 0: 2", func() (*client.Client, error) {
				return client.Create(d, limitsAt(which, n), draw(3))
			})
		}
	}
}

func TestCreateWithDraws(t *testing.T) {
	for _, n := range []int{0, 1, 16, 31, 33, 64, 288} {
		d := disk(t, 9)
		isRefusedOver(t, fmt.Sprintf("a draw of %d bytes", n), d, "Create 0: 71", func() (*client.Client, error) {
			return client.Create(d, someLimits(), zeros(n))
		})
	}
	for _, b := range [][]byte{zeros(32), bytes.Repeat([]byte{0xff}, 32), draw(4)} {
		isCreated(t, fmt.Sprintf("draw %x", b), disk(t, 9), someLimits(), b)
	}
}

// P22.1: Create's errors, each alone and each beside each one that is named behind it.
func TestOrderOfCreate(t *testing.T) {
	type made struct {
		d    *sectors.Device
		lim  api.Limits
		draw []byte
	}
	size := func(n int) func(m *made) { return func(m *made) { m.d = disk(t, n) } }
	faults := []struct {
		name, on, want string
		done           func(m *made)
	}{
		{"no disk", "disk down", "Create 0: 3", func(m *made) { m.d = nil }},
		{"no peers", "limits", "Create 0: 2", func(m *made) { m.lim.Peers = 0 }},
		{"a draw of 31 bytes", "draw", "Create 0: 71", func(m *made) { m.draw = m.draw[:31] }},
		{"a draw of 33 bytes", "draw", "Create 0: 71", func(m *made) { m.draw = append(m.draw, 0) }},
		{"no draw", "draw", "Create 0: 71", func(m *made) { m.draw = nil }},
		{"a disk that is down", "down", "Create 0: Load 0: 80", nil},
		{"no page", "disk", "Create 0: Load 0: 92", size(4)},
		{"one page", "disk", "Create 0: Load 0: 120", size(8)},
	}
	ask := func(want string, some ...int) {
		t.Helper()
		m := made{disk(t, 9), someLimits(), draw(5)}
		what, down := "", false
		for _, i := range some {
			what += faults[i].name + " "
			if faults[i].done == nil {
				down = true
			} else {
				faults[i].done(&m)
			}
		}
		if down {
			m.d.Crash(api.Loss{Torn: -1})
		}
		isRefusedOver(t, what, m.d, want, func() (*client.Client, error) { return client.Create(m.d, m.lim, m.draw) })
	}
	for i, f := range faults {
		ask(f.want, i)
		for j := i + 1; j < len(faults); j++ {
			if together(f.on, faults[j].on) {
				ask(f.want, i, j)
			}
		}
	}
}

// ground: what stands on a disk.
type ground struct {
	name string
	d    *sectors.Device
	open string // what Open says of it
}

// spoilt: an image of which the byte at that place is another one.
func spoilt(image []byte, at int) []byte {
	b := bytes.Clone(image)
	b[at] ^= 1
	return b
}

// grounds: disks of 14 sectors, of which the last is behind the homes: a client's, with a session and a prekey; a store's that is no client's; bytes of no kind; logs; writes that are not durable.
func grounds(t *testing.T) []ground {
	t.Helper()
	theirs := over(t, 14, with(newRecords(someLimits(), draw(9)), rec(3, four(7), zeros(64)), rec(4, []byte("\x03bob"), zeros(222)), rec(6, []byte("\x03bob\x00\x00\x00\x00"), bytes.Repeat([]byte{7}, 600)))).d.Image()
	other := layout(14, []api.Record{rec(1, []byte("a"), []byte("x")), rec(9, []byte("b"), zeros(900))})
	full := bytes.Repeat([]byte{0xff}, len(theirs))
	rest := bytes.Clone(theirs)
	rest[13*512] = 1
	list := []ground{
		{"a client", diskOf(t, theirs), "nil"},
		{"another store", diskOf(t, other), "Open 0: 123"},
		{"a store without records", diskOf(t, layout(14, nil)), "Open 0: 123"},
		{"zeros", disk(t, 14), "Open 0: Open 0: 100"},
		{"bytes of ones", diskOf(t, full), "Open 0: Open 0: Open 0: 90"},
		{"no mark", diskOf(t, spoilt(theirs, 7*512)), "Open 0: Open 0: 100"},
		{"a spoilt head", diskOf(t, spoilt(theirs, 7*512+20)), "Open 0: Open 0: 101"},
		{"a spoilt page", diskOf(t, spoilt(theirs, 9*512+20)), "Open 0: Open 1: 101"},
		{"a page out of its place", diskOf(t, joined(theirs[:9*512], theirs[11*512:13*512], theirs[11*512:])), "Open 0: Open 1: 102"},
		{"bytes behind the homes", diskOf(t, rest), "Open 0: Open 3: 104"},
		{"another store, spoilt", diskOf(t, spoilt(other, 9*512+20)), "Open 0: Open 1: 101"},
		{"another store's bytes behind the homes", diskOf(t, spoilt(other, 13*512)), "Open 0: Open 3: 104"},
	}
	waiting := diskOf(t, theirs)
	waiting.Write(0, bytes.Repeat([]byte{3}, 511+1))
	return append(list, ground{"a marker that is not durable and makes no sense", waiting, "Open 0: Open 0: Open 0: 90"})
}

// P22.1: Create over whatever stood there: nothing of it is left.
func TestCreateOver(t *testing.T) {
	for _, g := range grounds(t) {
		isCreated(t, "over "+g.name, g.d, someLimits(), draw(6))
	}
}

// P22.1: Open of these.
func TestOpen(t *testing.T) {
	for _, g := range grounds(t) {
		image := g.d.Image()
		for _, w := range g.d.Cache() {
			copy(image[512*w.Sector:], w.Bytes)
		}
		c, err := client.Open(g.d)
		isForm(t, g.name, err, g.open)
		if (c != nil) != (g.open == "nil") {
			t.Errorf("%s: Open answers %v", g.name, c)
		}
		if !bytes.Equal(g.d.Image(), image) || len(g.d.Cache()) != 0 {
			t.Errorf("%s: Open has changed the disk", g.name)
		}
	}
	c, err := client.Open(nil)
	if c != nil {
		t.Errorf("Open of no disk: a client")
	}
	isForm(t, "Open of no disk", err, "Open 0: 3")
	for size, want := range map[int]string{1: "92", 4: "92", 5: "100"} {
		d := disk(t, size)
		if size < 5 {
			want = "Open 0: " + want
		}
		isRefusedOver(t, fmt.Sprint(size, " sectors"), d, "Open 0: Open 0: "+want, func() (*client.Client, error) { return client.Open(d) })
	}
	for _, size := range []int{1, 9} {
		d := disk(t, size)
		d.Crash(api.Loss{Torn: -1})
		isRefusedOver(t, "a disk that is down", d, "Open 0: Open 0: Open 0: 80", func() (*client.Client, error) { return client.Open(d) })
	}
}

// P22.1: Open of stores whose limits' or identity's record is missing, or of other bytes; of one that has what a client needs, whatever else stands in it.
func TestOpenOfStores(t *testing.T) {
	right := newRecords(someLimits(), draw(7))
	one := []byte{0}
	past := func(which, n int) []byte { return newRecords(limitsAt(which, n), draw(7))[0].Value }
	var list [][]api.Record
	list = append(list, without(right, 1, one), without(right, 2, one), without(without(right, 1, one), 2, one), right[2:])
	list = append(list, with(without(right, 1, one), rec(1, []byte{1}, right[0].Value), rec(1, []byte{0, 0}, right[0].Value), rec(15, one, right[0].Value)))
	list = append(list, with(without(right, 2, one), rec(2, []byte{1}, right[1].Value), rec(2, []byte{0, 0}, right[1].Value)))
	for _, value := range [][]byte{nil, zeros(14), right[0].Value[:13], joined(right[0].Value, zeros(1)), past(0, 0), past(0, 17), past(1, 0), past(1, 65), past(2, 65), past(3, 257), past(4, 0), past(4, 65), past(5, 0)} {
		list = append(list, with(right, rec(1, one, value)))
	}
	for _, n := range []int{0, 32, 63, 65, 128} {
		list = append(list, with(right, rec(2, one, zeros(n))))
	}
	for _, records := range list {
		d := diskOf(t, layout(22, records))
		isRefusedOver(t, told(records), d, "Open 0: 123", func() (*client.Client, error) { return client.Open(d) })
	}
	for _, records := range [][]api.Record{
		right, without(right, 7, one), with(right, rec(7, one, zeros(3))), with(right, rec(2, one, zeros(64))), with(right, rec(1, one, past(0, 16))),
		with(right, rec(1, []byte{1}, nil), rec(3, []byte("odd"), nil), rec(4, []byte("odd"), nil), rec(5, []byte("odd"), nil), rec(6, []byte("odd"), nil), rec(0, []byte("odd"), nil), rec(15, []byte("odd"), nil)),
	} {
		b := over(t, 22, records)
		isLaidOut(t, told(records), b.d, b.c, records)
		for _, x := range asks("bob") {
			b.does(told(records), x)
		}
	}
}

// P3: opening does what the log holds, also where it is refused then.
func TestOpenDoesTheLog(t *testing.T) {
	was := newRecords(someLimits(), draw(8))
	for _, wanted := range [][]api.Record{with(was, rec(3, four(1), zeros(64))), without(was, 1, []byte{0}), without(was, 2, []byte{0})} {
		d, s := laid(22, was)
		x, _ := s.Begin()
		for _, r := range was {
			x.Delete(r.Table, r.Key)
		}
		for _, r := range wanted {
			x.Put(r.Table, r.Key, r.Value)
		}
		isCode(t, "Arm", d.Arm(8, api.Loss{Torn: -1}), 0) // a commit of two pages or one: its marker is durable, its homes are not
		isCode(t, "Commit", api.Code(x.Commit()), 80)
		isCode(t, "Up", d.Up(), 0)
		if bytes.Equal(d.Image(), layout(22, was)) || bytes.Equal(d.Image(), layout(22, wanted)) {
			t.Fatalf("the log is empty")
		}
		want := "Open 0: 123"
		if len(wanted) == 4 {
			want = "nil"
		}
		_, err := client.Open(d)
		isForm(t, "Open", err, want)
		if !bytes.Equal(d.Image(), layout(22, wanted)) || len(d.Cache()) != 0 {
			t.Errorf("%s: the log was not done", told(wanted))
		}
	}
}
