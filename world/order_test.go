package world_test

import (
	"fmt"
	"slices"
	"strings"
	"testing"

	"lethe/api"
)

// fault: something that a kind of steps is refused for. on: what is bent for it, in words: two faults on one thing are not laid together.
type fault struct {
	name, on string
	want     api.Answer
	set      func(b *bench, s *api.Step)
}

func code(e api.Errno) api.Answer { return api.Answer{Code: e} }

// raised: a world in which every kind of steps can be taken by node 1, whose disk has so many pages: it has a session with node 2 and one unacknowledged packet for it; packets 1 and 2, of node 2 for node 1, are on their way; it holds a bundle of node 3; node 4 is not created.
func raised(t *testing.T, pages int) *bench {
	t.Helper()
	b := newBench(t, 4, narrow())
	for _, line := range []string{
		fmt.Sprint("create 1 ", pages, " *"), "create 2 20 *", "create 3 20 *", "publish 2 1 *", "initiate 1 2 * * 'hi -", "deliver 0 * -", "send 2 1 'yes 'd", "send 2 1 'no 'd", "publish 3 1 *",
	} {
		if a := b.quick(line, b.step(line)); a.Code != 0 {
			t.Fatalf("%s: error %d", line, a.Code)
		}
	}
	return b
}

// plainly: lines that are played whatever they answer.
func plainly(lines ...string) func(b *bench, s *api.Step) {
	return func(b *bench, s *api.Step) {
		for _, line := range lines {
			b.quick(line, b.step(line))
		}
	}
}

// setting: a fault on one of the step's own fields.
func setting(name, on string, want api.Errno, set func(s *api.Step)) fault {
	return fault{name, on, code(want), func(b *bench, s *api.Step) { set(s) }}
}

func kindFaults() []fault {
	var list []fault
	for _, k := range []int{0, 16} {
		list = append(list, setting(fmt.Sprint("kind ", k), "kind", 244, func(s *api.Step) { s.Kind = k }))
	}
	return list
}

func nodeFaults() []fault {
	var list []fault
	for _, k := range []int{0, 5} {
		list = append(list, setting(fmt.Sprint("node ", k), "node", 240, func(s *api.Step) { s.Node = k }))
	}
	return list
}

func peerFaults() []fault {
	list := []fault{setting("the node itself", "node peer", 240, func(s *api.Step) { s.Peer = s.Node })}
	for _, k := range []int{0, 5} {
		list = append(list, setting(fmt.Sprint("peer ", k), "peer", 240, func(s *api.Step) { s.Peer = k }))
	}
	return list
}

func notCreated() fault {
	return setting("not created", "node", 242, func(s *api.Step) { s.Node = 4 })
}

func closed() fault { return fault{"closed", "client", code(220), plainly("close 1")} }

func down() fault {
	return fault{"down", "client", code(80), plainly("arm 1 1 - -1 0", "ack 1 2 0")}
}

// armed: the disk gives up in the step.
func armed() fault { return fault{"armed", "disk", code(80), plainly("arm 1 1 - -1 0")} }

// crowded: no room in the network, but for so many packets.
func crowded(room int, want api.Answer) fault {
	return fault{fmt.Sprint("crowded but for ", room), "net", want, func(b *bench, s *api.Step) { b.crowds(room) }}
}

// crowds: packet 1, which is on its way, is doubled till there is room for so many alone.
func (b *bench) crowds(room int) {
	b.t.Helper()
	for b.r.flying < 4096-room {
		if a := b.quick("crowds", api.Step{Kind: 7, A: 1}); a.Code != 0 {
			b.t.Fatalf("a copy is refused with %d", a.Code)
		}
	}
}

// talkFaults: those that are ahead of the own ones of every kind that names a peer.
func talkFaults(own ...fault) []fault {
	return slices.Concat(kindFaults(), nodeFaults(), peerFaults(), []fault{notCreated(), closed(), down()}, own)
}

func longText() fault {
	return setting("a long text", "text", 5, func(s *api.Step) { s.Text = make([]byte, 513) })
}

func longData() fault {
	return setting("long data", "data", 5, func(s *api.Step) { s.Data = make([]byte, 65) })
}

func otherData() fault {
	return setting("other data", "data", 50, func(s *api.Step) { s.Data = []byte("other") })
}

func stranger() fault {
	return setting("no session", "peer", 211, func(s *api.Step) { s.Peer = 3 })
}

// together: two faults have no thing in common that they bend.
func together(a, b fault) bool {
	words := strings.Fields(b.on)
	return !slices.ContainsFunc(strings.Fields(a.on), func(w string) bool { return slices.Contains(words, w) })
}

// areToldInOrder: the step that a line says, behind others, is taken as it is; with each of the faults it is refused for it; with two for the one that is named first.
func areToldInOrder(t *testing.T, pages int, line string, faults []fault, ahead ...string) {
	t.Helper()
	areToldInOrderOf(t, pages, line, func(b *bench, s *api.Step) { plainly(ahead...)(b, s) }, faults)
}

func areToldInOrderOf(t *testing.T, pages int, line string, ahead func(b *bench, s *api.Step), faults []fault) {
	t.Helper()
	play := func(t *testing.T, want api.Answer, some ...fault) {
		b := raised(t, pages)
		s := b.step(line)
		ahead(b, &s)
		what := line
		for _, f := range some {
			f.set(b, &s)
			what += ", " + f.name
		}
		a := b.plays(what, s)
		if len(some) == 0 && a.Code != 0 || len(some) > 0 && a != want {
			t.Errorf("P24.1: %s: %s, want %s", what, told(a), told(want))
		}
	}
	play(t, api.Answer{})
	for i, f := range faults {
		t.Run(f.name, func(t *testing.T) {
			t.Parallel()
			play(t, f.want, f)
			for _, g := range faults[i+1:] {
				if together(f, g) {
					play(t, f.want, f, g)
				}
			}
		})
	}
}

func TestOrderOfCreate(t *testing.T) {
	list := slices.Concat(kindFaults(), nodeFaults())
	for _, a := range []int{0, 251} {
		list = append(list, setting(fmt.Sprint("pages ", a), "a", 4, func(s *api.Step) { s.A = a }))
	}
	list = append(list, setting("created", "node", 241, func(s *api.Step) { s.Node = 1 }), setting("a page alone", "a", 120, func(s *api.Step) { s.A = 1 }))
	areToldInOrder(t, 5, "create 4 5 *", list)
}

func TestOrderOfPublish(t *testing.T) {
	areToldInOrder(t, 5, "publish 1 2 *", talkFaults(
		fault{"as many as may be", "prekeys", code(191), plainly("publish 1 3 *", "publish 1 4 *")},
		armed(),
	))
}

func TestOrderOfInitiate(t *testing.T) {
	areToldInOrder(t, 3, "initiate 1 3 * * 'hi -", talkFaults(
		fault{"no bundle", "bundle", code(245), plainly("initiate 1 3 * * - -", "forget 1 3")},
		fault{"a session", "session", code(210), plainly("publish 3 1 *", "initiate 1 3 * * - -")},
		fault{"as many sessions as may be", "sessions", code(213), func(b *bench, s *api.Step) { b.fourthName() }},
		longText(), longData(),
		setting("no room on the disk", "text", 120, func(s *api.Step) { s.Text = make([]byte, 512) }), armed(),
		crowded(0, api.Answer{Code: 231, A: -1}),
	), "send 1 2 "+strings.Repeat("00", 512)+" -")
}

// fourthName: node 1 has a session under the name of node 4, though that one knows nothing of it.
func (b *bench) fourthName() {
	b.t.Helper()
	plainly("forget 3 1", "publish 1 3 *", "initiate 3 1 * * 'four -")(b, nil)
	s := b.step("junk 1 4 - * -")
	s.Text = []byte(b.r.air[len(b.r.air)-1].bytes)
	b.quick("a fourth name", s)
}

func TestOrderOfSend(t *testing.T) {
	areToldInOrder(t, 2, "send 1 2 'hi -", talkFaults(
		stranger(), longText(), longData(),
		fault{"a full outbox", "outbox", code(200), plainly("send 1 2 - -", "send 1 2 - -")},
		setting("no room on the disk", "text", 120, func(s *api.Step) { s.Text = make([]byte, 512) }), armed(),
		crowded(0, api.Answer{Code: 231, A: -1}),
	))
}

func TestOrderOfDeliver(t *testing.T) {
	list := kindFaults()
	for _, k := range []int{-1, 0, 5000} {
		list = append(list, setting(fmt.Sprint("packet ", k), "a", 230, func(s *api.Step) { s.A = k }))
	}
	list = append(list,
		fault{"to a node that isn't created", "a", code(242), func(b *bench, s *api.Step) {
			b.fourthName()
			plainly("send 1 4 - -")(b, nil)
			s.A = len(b.r.air) - 1
		}},
		closed(), down(), longData(),
		fault{"taken", "packet", code(161), plainly("copy 1", "deliver 3 * 'd")},
		otherData(), armed(),
	)
	areToldInOrder(t, 5, "deliver 1 * 'd", list)
}

// The packet that begins a session comes to node 1 from node 3.
func TestOrderOfDeliverFirst(t *testing.T) {
	areToldInOrder(t, 5, "deliver 3 * -", []fault{
		closed(), down(),
		fault{"as many sessions as may be", "sessions", code(213), func(b *bench, s *api.Step) { b.fourthName() }},
		fault{"its prekey is gone", "prekey", code(190), func(b *bench, s *api.Step) {
			plainly("copy 3", fmt.Sprint("deliver ", len(b.r.air), " * -"), "forget 1 3")(b, nil)
		}},
		longData(), otherData(), armed(),
	}, "publish 1 3 *", "initiate 3 1 * * 'first -")
}

func TestOrderOfDropAndCopy(t *testing.T) {
	list := kindFaults()
	for _, k := range []int{-1, 0, 5000} {
		list = append(list, setting(fmt.Sprint("packet ", k), "a", 230, func(s *api.Step) { s.A = k }))
	}
	areToldInOrder(t, 5, "drop 1", list)
	areToldInOrder(t, 5, "copy 1", append(list, crowded(0, code(231))))
}

func TestOrderOfAck(t *testing.T) {
	var own []fault
	for _, a := range []int{-1, 1 << 32} {
		own = append(own, setting(fmt.Sprint("serial ", a), "a", 4, func(s *api.Step) { s.A = a }))
	}
	for _, a := range []int{1, 1<<32 - 1} {
		own = append(own, setting(fmt.Sprint("unknown ", a), "a", 201, func(s *api.Step) { s.A = a }))
	}
	own = append(own, setting("another's", "peer", 201, func(s *api.Step) { s.Peer = 3 }), armed())
	areToldInOrder(t, 5, "ack 1 2 0", talkFaults(own...))
}

func TestOrderOfReplay(t *testing.T) {
	areToldInOrder(t, 5, "replay 1 2", talkFaults(stranger(), crowded(1, api.Answer{Code: 231, A: 1})), "send 1 2 - -")
}

// P24.1: every number that is no node's, for every kind that names one; and each that is out of the range of another field.
func TestFarNumbers(t *testing.T) {
	b := raised(t, 5)
	for word, f := range forms {
		if f.fields[0] != 'n' {
			continue
		}
		for _, k := range badNodes(4) {
			s := api.Step{Kind: f.kind, Node: k, Peer: 2, A: 1, Draw: b.draw(), Other: b.draw()}
			if a := b.plays(fmt.Sprint(word, " of node ", k), s); a != code(240) {
				t.Errorf("P24.1: %s of node %d: %s", word, k, told(a))
			}
			s.Node, s.Peer = 1, k
			if strings.Contains(f.fields, "p") {
				if a := b.plays(fmt.Sprint(word, " with peer ", k), s); a != code(240) {
					t.Errorf("P24.1: %s with peer %d: %s", word, k, told(a))
				}
			}
		}
	}
	for _, k := range append(farNumbers(), 0, 3) {
		for _, word := range []string{"drop", "copy", "deliver"} {
			b.is(fmt.Sprint(word, " ", k, " * -"), 230, 0, 0, "")
		}
	}
	for _, a := range append(farNumbers(), 0, 251, 252) {
		b.is(fmt.Sprint("create 4 ", a, " *"), 4, 0, 0, "")
		b.is(fmt.Sprint("create 1 ", a, " *"), 4, 0, 0, "")
	}
	for _, a := range farNumbers() {
		serial, step := api.Errno(201), api.Errno(0)
		if a < 0 || a > 1<<32-1 {
			serial = 4
		}
		if a < 0 {
			step = 4
		}
		b.is(fmt.Sprint("ack 1 2 ", a), serial, 0, 0, "")
		b.is(fmt.Sprint("arm 1 ", a, " - -1 0"), step, 0, 0, "")
	}
	b.is(fmt.Sprint("ack 1 2 ", 1<<32-1), 201, 0, 0, "")
	b.is(fmt.Sprint("ack 1 2 ", 1<<32), 4, 0, 0, "")
	for _, a := range farNumbers() {
		b.goes("close 1")
		b.is(fmt.Sprint("boot 1 ", a, " ffffffffffffffff ", a, " ", a), 0, 5, 0, "")
	}
	b.goes("send 1 2 - -")
}

func TestOrderOfForget(t *testing.T) {
	areToldInOrder(t, 5, "forget 1 2", talkFaults(stranger(), armed()))
}

func TestOrderOfStatus(t *testing.T) {
	areToldInOrder(t, 5, "status 1 2", talkFaults(stranger()))
}

func TestOrderOfJunk(t *testing.T) {
	right := func(b *bench, s *api.Step) { s.Text = []byte(b.r.air[1].bytes) }
	own := []fault{
		stranger(),
		setting("no bytes", "text", 10, func(s *api.Step) { s.Text = nil }),
		fault{"cut bytes", "text", code(10), func(b *bench, s *api.Step) { s.Text = []byte(b.r.air[1].bytes[:90]) }},
		setting("another version", "text", 140, func(s *api.Step) { s.Text = make([]byte, 200) }),
		fault{"bytes behind the end", "text", code(11), func(b *bench, s *api.Step) { s.Text = []byte(b.r.air[1].bytes + "x") }},
		longData(),
		fault{"taken", "packet", code(161), plainly("copy 1", "deliver 3 * 'd")},
		otherData(), armed(),
	}
	areToldInOrderOf(t, 5, "junk 1 2 - * 'd", right, talkFaults(own...))
}

func TestOrderOfArm(t *testing.T) {
	list := slices.Concat(kindFaults(), nodeFaults(), []fault{notCreated()})
	below := setting("below 0", "a", 4, func(s *api.Step) { s.A = -1 })
	areToldInOrder(t, 5, "arm 1 3 - -1 0", append(list, down(), below))
	areToldInOrder(t, 5, "arm 1 3 - -1 0", append(list, below), "arm 1 9 - 0 0", "close 1")
}

// A node whose log holds a commit boots.
func TestOrderOfBoot(t *testing.T) {
	areToldInOrder(t, 5, "boot 1 0 - 0 0", slices.Concat(kindFaults(), nodeFaults(), []fault{
		notCreated(),
		{"it runs", "client", code(243), plainly("boot 1 0 - 0 0")},
		setting("armed", "a", 80, func(s *api.Step) { s.A = 1 }),
	}), "arm 1 6 - 0 0", "ack 1 2 0")
}

func TestOrderOfClose(t *testing.T) {
	areToldInOrder(t, 5, "close 1", slices.Concat(kindFaults(), nodeFaults(), []fault{notCreated(), closed(), down()}))
}
