package client_test

import (
	"bytes"
	"fmt"
	"math/rand"
	"slices"
	"sync"
	"testing"

	"lethe/api"
	"lethe/client"
	"lethe/header"
	"lethe/sectors"
	"lethe/state"
)

// crowd: a disk's image, calls that are made at a time, and where the disk gives up (0: nowhere).
type crowd struct {
	t     *testing.T
	image []byte
	calls []call
	step  int
	loss  api.Loss
}

func (g crowd) client() (*sectors.Device, *client.Client) {
	g.t.Helper()
	d := diskOf(g.t, g.image)
	c := opened(g.t, "a crowd", d)
	isCode(g.t, "Arm", d.Arm(g.step, g.loss), 0)
	return d, c
}

// seen: all answers, call by call, and what is left on the disk.
func seen(answers []answer, d *sectors.Device) string {
	return fmt.Sprint(answers, d.Down(), d.Calls(), len(d.Cache()), string(d.Image()))
}

// atOnce: each call by a goroutine of its own.
func (g crowd) atOnce() string {
	g.t.Helper()
	d, c := g.client()
	answers := make([]answer, len(g.calls))
	start := make(chan int)
	var all sync.WaitGroup
	for i, x := range g.calls {
		all.Add(1)
		go func() {
			defer all.Done()
			<-start
			answers[i] = x.madeBy(c)
		}()
	}
	close(start)
	all.Wait()
	return seen(answers, d)
}

// inOrder: one behind the other.
func (g crowd) inOrder(order []int) string {
	g.t.Helper()
	d, c := g.client()
	answers := make([]answer, len(g.calls))
	for _, i := range order {
		answers[i] = g.calls[i].madeBy(c)
	}
	return seen(answers, d)
}

// orders: all of 0 to n-1.
func orders(n int) [][]int {
	if n == 0 {
		return [][]int{nil}
	}
	var all [][]int
	for _, order := range orders(n - 1) {
		for at := range n {
			all = append(all, slices.Insert(slices.Clone(order), at, n-1))
		}
	}
	return all
}

// pool: calls of bob, of which many get into each other's way.
func pool(t *testing.T) (*bench, []call) {
	t.Helper()
	alice, bob := begun(t, wide())
	lost := alice.sends("lost", "bob", "lost", "")
	late := alice.sends("late", "bob", "late", "")
	bob.sends("a packet", "alice", "answer", "")
	carol := created(t, 3, 81, wide())
	bundle := carol.publishes("carol")
	first := carol.initiates("carol", "bob", bob.publishes("bob"), "hello", "")
	list := []call{
		{name: "Publish", draws: [][]byte{bob.draw()}}, {name: "Publish", draws: [][]byte{bob.draw(), bob.draw()}}, {name: "Publish"},
		{name: "Send", peer: "alice", text: []byte("one")}, {name: "Send", peer: "alice", text: []byte("two")}, {name: "Send", peer: "carol", text: []byte("three")},
		bob.firstTo("carol", bundle, "hello", ""), bob.coming("Accept", "carol", first, ""), bob.coming("Accept", "dave", first, ""),
		bob.coming("Receive", "alice", lost, ""), bob.coming("Receive", "alice", late, ""), bob.coming("Receive", "alice", late, ""),
		{name: "Ack", peer: "alice", serial: 0}, {name: "Ack", peer: "alice", serial: 1}, {name: "Forget", peer: "alice"}, {name: "Close"},
	}
	return bob, append(list, asks("alice")...)
}

// P22.7: calls made at a time answer what they would have answered one behind the other, in some order; also where the disk gives up in one of them.
func TestManyInSomeOrder(t *testing.T) {
	bob, calls := pool(t)
	image := bob.d.Image()
	for part := range 8 {
		t.Run(fmt.Sprint(part), func(t *testing.T) {
			t.Parallel()
			r := rand.New(rand.NewSource(int64(part)))
			for round := range 25 {
				g := crowd{t: t, image: image}
				for range 4 {
					g.calls = append(g.calls, calls[r.Intn(len(calls))])
				}
				if r.Intn(3) == 0 {
					g.step, g.loss = 1+r.Intn(30), api.Loss{Keep: []uint64{r.Uint64()}, Torn: r.Intn(4)}
				}
				got := g.atOnce()
				if !slices.ContainsFunc(orders(len(g.calls)), func(order []int) bool { return g.inOrder(order) == got }) {
					t.Fatalf("P22.7: round %d: %+v answer what they answer in no order", round, g.calls)
				}
			}
		})
	}
}

// isOneMoment: records that are those of one moment: each message that was sent has its packet.
func isOneMoment(t *testing.T, list []api.Record) {
	t.Helper()
	sent, packets := uint32(0), uint32(0)
	for _, r := range list {
		switch r.Table {
		case 4:
			s, e := state.Decode(r.Value)
			isCode(t, "Decode", e, 0)
			sent = s.Sent
		case 6:
			packets++
		}
	}
	if sent != packets || sent == 0 {
		t.Errorf("P22.7: Records answers a state with %d messages, and %d packets", sent, packets)
	}
}

// P22.7: many senders, and many who ask meanwhile: each message has a serial, a key and a packet of its own, and what is told is of one moment.
func TestManySenders(t *testing.T) {
	alice, bob := created(t, 1, 241, wide()), created(t, 2, 81, wide())
	first := alice.initiates("first", "bob", bob.publishes("a bundle"), "", "")
	const senders, each = 12, 4
	packets := [1 + senders*each][]byte{first}
	var all sync.WaitGroup
	for i := range senders {
		all.Add(2)
		go func() {
			defer all.Done()
			for k := range each {
				serial, packet, err := alice.c.Send("bob", []byte{byte(i), byte(k)}, nil)
				if err != nil || int(serial) >= len(packets) || packets[serial] != nil {
					t.Errorf("P22.7: Send answers %d, %v", serial, err)
					return
				}
				packets[serial] = packet
			}
		}()
		go func() {
			defer all.Done()
			for range each {
				list, err := alice.c.Records()
				isForm(t, "Records", err, "nil")
				isOneMoment(t, list)
				s, err := alice.c.Tell("bob")
				if err != nil || int(s.Sent) != s.Unanswered {
					t.Errorf("P22.7: Tell answers %+v, %v", s, err)
				}
			}
		}()
	}
	all.Wait()
	mails, err := alice.c.Replay("bob")
	if err != nil || len(mails) != len(packets) {
		t.Fatalf("P22.7: Replay answers %d packets, %v", len(mails), err)
	}
	for i, m := range mails {
		p, _ := header.Unpack(m.Bytes)
		if int(m.Serial) != i || !bytes.Equal(m.Bytes, packets[i]) || int(p.Header.N) != i {
			t.Errorf("P22.7: packet %d is another one than Send has answered", i)
		}
	}
	list := recordsOf(t, "many", alice.c)
	isLaidOut(t, "many", alice.d, alice.c, list)
	isLaidOut(t, "many, opened again", alice.d, opened(t, "many", alice.d), list)
}

// P22.7: of many who take one packet one gets the text; of many who use one prekey one has a session.
func TestManyTakers(t *testing.T) {
	alice, bob := begun(t, wide())
	packet := alice.sends("one", "bob", "once", "")
	carol := created(t, 3, 81, wide())
	first := carol.initiates("first", "bob", bob.publishes("a bundle"), "hello", "")
	const takers = 10
	var lock sync.Mutex
	count := map[string]int{}
	var all sync.WaitGroup
	for i := range takers {
		draw := bob.draw()
		all.Add(2)
		go func() {
			defer all.Done()
			text, err := bob.c.Receive("alice", packet, draw, nil)
			lock.Lock()
			defer lock.Unlock()
			count[fmt.Sprintf("%q %s", text, form(err))]++
		}()
		go func() {
			defer all.Done()
			text, err := bob.c.Accept(fmt.Sprint("carol ", i), first, draw, nil)
			lock.Lock()
			defer lock.Unlock()
			count[fmt.Sprintf("%q %s", text, form(err))]++
		}()
	}
	all.Wait()
	for what, want := range map[string]int{`"once" nil`: 1, `"" Receive 0: 161`: takers - 1, `"hello" nil`: 1, `"" Accept 0: 190`: takers - 1} {
		if count[what] != want {
			t.Errorf("P22.6, P22.7: %s was answered %d times, want %d; in all %v", what, count[what], want, count)
		}
	}
}

// P22.7: of many who close a client one is told that it is closed.
func TestManyClose(t *testing.T) {
	alice, _ := begun(t, wide())
	errs := make([]error, 16)
	var all sync.WaitGroup
	for i := range errs {
		all.Add(1)
		go func() {
			defer all.Done()
			errs[i] = alice.c.Close()
		}()
	}
	all.Wait()
	closed := 0
	for _, err := range errs {
		if err == nil {
			closed++
		} else {
			isForm(t, "Close", err, "Close 0: 220")
		}
	}
	if closed != 1 {
		t.Errorf("P22.7: %d of %d have closed it", closed, len(errs))
	}
}
