package client_test

import (
	"bytes"
	"strings"
	"testing"

	"lethe/api"
	"lethe/pack"
	"lethe/state"
	"lethe/wal"
)

// scene: a client's records, a call, and what is done to the client ahead of it.
type scene struct {
	t                  *testing.T
	list               []api.Record
	x                  call
	bend               func([]byte) []byte // of the bundle's or the packet's bytes, behind all else that is done to them
	full, down, closed bool
}

// fault: one of a call's errors, as something that is done to a right call. on: to which things it is done. want: what lies in the call's Fault.
type fault struct {
	name, on, want string
	done           func(s *scene)
}

// filled: these records, of one page, and more with which a disk has room for nothing else; that disk's size.
func filled(t *testing.T, list []api.Record) ([]api.Record, int) {
	t.Helper()
	left := api.PageSize - api.PageHead
	for _, r := range list {
		left -= 4 + len(r.Key) + len(r.Value)
	}
	for k := byte(0); left > 0; k++ {
		n := min(left-5, 500)
		list = with(list, rec(15, []byte{k}, zeros(n)))
		left -= 5 + n
	}
	if counts, e := pack.Pack(list); e != 0 || len(counts) != 1 || left != 0 {
		t.Fatalf("%d bytes are left, %d pages, error %d", left, len(counts), e)
	}
	return list, wal.Need(2)
}

// plays: the call is made, and answers that.
func (s scene) plays(what, want string) {
	s.t.Helper()
	list, size := s.list, 81
	if s.full {
		list, size = filled(s.t, list)
	}
	if s.bend != nil {
		s.x.bytes = s.bend(bytes.Clone(s.x.bytes))
	}
	b := over(s.t, size, list)
	if s.closed {
		b.takes(what, call{name: "Close"})
	}
	if s.down {
		b.meetsDown(what, s.x, want)
		return
	}
	a := b.does(what, s.x)
	isForm(s.t, what+": "+s.x.name, a.err, want)
}

// meetsDown: the call is made while the disk is down: it is met by a commit alone, and ends the client.
func (b *bench) meetsDown(what string, x call, want string) {
	b.t.Helper()
	isCode(b.t, "Crash", b.d.Crash(api.Loss{Torn: -1}), 0)
	got := x.madeBy(b.c)
	isForm(b.t, what+", down: "+x.name, got.err, want)
	if got.err != nil {
		zero := words{ended: 1}
		if ended := x.madeBy(&zero); ended.rest != got.rest || !bytes.Equal(joined(got.lists...), nil) {
			b.t.Errorf("%s: %s answers %s", what, x.name, got)
		}
	}
	switch list, err := b.c.Records(); {
	case b.w.ended != 0:
		isForm(b.t, what, err, "Records 0: 220")
	case strings.HasSuffix(want, " 80"):
		isForm(b.t, what, err, "Records 0: 80")
	case err != nil || !sameList(list, b.w.list):
		b.t.Errorf("%s: refused ahead of the disk: %v, %s", what, err, told(list))
	}
	if !bytes.Equal(b.d.Image(), layout(b.w.size, b.w.list)) {
		b.t.Errorf("%s: the image has changed", what)
	}
}

// areToldInOrder: no fault; each fault alone; each beside each one that is named behind it: the answer is the one that is named first.
func areToldInOrder(t *testing.T, right scene, faults []fault) {
	t.Helper()
	asked := func(want string, some ...fault) {
		t.Helper()
		s, what := right, "right"
		for _, f := range some {
			f.done(&s)
			what += ", " + f.name
		}
		if want != "nil" {
			want = s.x.name + " 0: " + want
		}
		s.plays(what, want)
	}
	asked("nil")
	for i, f := range faults {
		asked(f.want, f)
		for _, g := range faults[i+1:] {
			if together(f.on, g.on) {
				asked(f.want, f, g)
			}
		}
	}
}

// The things that are done.

func closed() fault {
	return fault{"closed", "closed", "220", func(s *scene) { s.closed = true }}
}

// commitFaults: what comes behind all that the layers below say.
func commitFaults() []fault {
	return []fault{{"no room", "full", "Commit 0: 120", func(s *scene) { s.full = true }}, downFault()}
}

func downFault() fault {
	return fault{"a disk that is down", "down", "Commit 0: Commit 0: 80", func(s *scene) { s.down = true }}
}

// laying: these records are there.
func laying(more ...api.Record) func(s *scene) {
	return func(s *scene) { s.list = with(s.list, more...) }
}

func taking(table int, key []byte) func(s *scene) {
	return func(s *scene) { s.list = without(s.list, table, key) }
}

// bending: a thing that is done to the bytes that come in.
func bending(name, want string, bend func([]byte) []byte) fault {
	return fault{name, "bend", want, func(s *scene) { s.bend = bend }}
}

func cut(n int) func([]byte) []byte { return func(b []byte) []byte { return b[:n] } }

func cutBy(n int) func([]byte) []byte { return func(b []byte) []byte { return b[:len(b)-n] } }

func byteMore(b []byte) []byte { return append(b, 0) }

// putting: these bytes, from that place on.
func putting(at int, more ...byte) func([]byte) []byte {
	return func(b []byte) []byte {
		copy(b[at:], more)
		return b
	}
}

// writing: the same, ahead of what bends.
func writing(at int, more ...byte) func(s *scene) {
	return func(s *scene) { s.x.bytes = putting(at, more...)(bytes.Clone(s.x.bytes)) }
}

// turning: a bit of the byte at that place.
func turning(at int) func(s *scene) {
	return func(s *scene) {
		b := bytes.Clone(s.x.bytes)
		b[at] ^= 1
		s.x.bytes = b
	}
}

// oddDraw: 0, 31 and 33 bytes.
func oddDraws(name string, set func(s *scene, b []byte)) []fault {
	var list []fault
	for _, n := range []int{31, 33, 0} {
		b := append(draw(-9), 0)[:n]
		list = append(list, fault{name + " of another length", name, "71", func(s *scene) { set(s, b) }})
	}
	return list
}

func turnFaults() []fault { return oddDraws("turn", func(s *scene, b []byte) { s.x.turn = b }) }

func nameFaults() []fault {
	named := func(peer string) func(s *scene) { return func(s *scene) { s.x.peer = peer } }
	return []fault{{"no name", "name", "212", named("")}, {"17 bytes", "name", "212", named(strings.Repeat("n", 17))}}
}

// sessionOf: a state's record under that name, of which nothing is looked at.
func sessionOf(peer string) api.Record {
	return rec(4, append([]byte{byte(len(peer))}, peer...), zeros(222))
}

func roomFaults(peer string) []fault {
	return []fault{
		{"a session is there", "sessions", "210", laying(sessionOf(peer))},
		{"two other sessions", "sessions", "213", laying(sessionOf("b"), sessionOf("bobb"))},
	}
}

func longFaults() []fault {
	return []fault{
		{"a text of 513 bytes", "text", "5", func(s *scene) { s.x.text = zeros(513) }},
		{"data of 65 bytes", "data", "5", func(s *scene) { s.x.data = zeros(65) }},
	}
}

func mailOf(serial uint32, behind ...byte) api.Record {
	return rec(6, joined([]byte("\x03bob"), four(serial), behind), []byte("a packet"))
}

// mailFaults: outbox.Put's, of bob's packet of that serial.
func mailFaults(serial uint32) []fault {
	return []fault{
		{"a packet's key of 5 bytes", "stray", "180", laying(mailOf(77, 0))},
		{"a packet of that serial", "twice", "151", laying(mailOf(serial))},
		{"two packets", "many", "200", laying(mailOf(78), mailOf(79))},
	}
}

// P22.1: Publish.
func TestOrderOfPublish(t *testing.T) {
	right := scene{t: t, list: newRecords(someLimits(), draw(1)), x: call{name: "Publish", draws: [][]byte{draw(2), draw(3)}}}
	draws := func(list ...[]byte) func(s *scene) { return func(s *scene) { s.x.draws = list } }
	long, short := append(draw(4), 0), draw(4)[:31]
	faults := []fault{closed(), {"no draw", "draws", "6", draws()}}
	for _, list := range [][][]byte{{short}, {long}, {nil}, {draw(2), short}, {draw(2), long}, {long, draw(3)}, {nil, draw(3)}, {draw(2), nil}} {
		faults = append(faults, fault{"a draw of another length", "draws", "71", draws(list...)})
	}
	many := make([][]byte, 65)
	for i := range many {
		many[i] = draw(100 + i)
	}
	faults = append(faults,
		fault{"no number of prekeys", "published", "123", taking(7, []byte{0})},
		fault{"a number of 3 bytes", "published", "123", laying(rec(7, []byte{0}, zeros(3)))},
		fault{"a number of 5 bytes", "published", "123", laying(rec(7, []byte{0}, zeros(5)))},
		fault{"four draws", "draws", "191", draws(draw(2), draw(3), draw(4), draw(5))},
		fault{"65 draws", "draws", "191", draws(many...)},
		fault{"two prekeys", "prekeys", "191", laying(rec(3, four(1), zeros(64)), rec(3, four(2), zeros(64)))},
		fault{"99 published", "published", "130", laying(rec(7, []byte{0}, four(99)))},
		fault{"2^32 - 1 published", "published", "130", laying(rec(7, []byte{0}, four(1<<32-1)))})
	areToldInOrder(t, right, append(faults, commitFaults()...))
}

// P22.1: Initiate.
func TestOrderOfInitiate(t *testing.T) {
	bob := created(t, 2, 81, someLimits())
	right := scene{t: t, list: newRecords(someLimits(), draw(1)), x: call{
		name: "Initiate", peer: "bob", bytes: bob.publishes("the bundle"), once: draw(2), turn: draw(3), text: []byte("text"), data: []byte("data")}}
	faults := append([]fault{closed()}, oddDraws("once", func(s *scene, b []byte) { s.x.once = b })...)
	faults = append(faults, turnFaults()...)
	faults = append(append(faults, nameFaults()...), roomFaults("bob")...)
	faults = append(faults,
		bending("no bytes", "10", cut(0)), bending("version 2", "140", putting(0, 2, 9)), bending("a packet's kind", "103", putting(1, 1)),
		bending("cut", "10", cutBy(1)), bending("a byte more", "11", byteMore), bending("no identity", "170", putting(2, zeros(32)...)),
		bending("prekey 0", "170", putting(34, zeros(4)...)), bending("no key", "170", putting(38, zeros(32)...)),
		fault{"a low prekey", "key", "70", writing(38, append([]byte{1}, zeros(31)...)...)},
		fault{"a low identity", "identity", "70", writing(2, append([]byte{1}, zeros(31)...)...)})
	faults = append(append(faults, longFaults()...), mailFaults(0)...)
	areToldInOrder(t, right, append(faults, commitFaults()...))
}

// P22.1: Accept.
func TestOrderOfAccept(t *testing.T) {
	lim := someLimits()
	lim.Skips = 3
	alice, bob := created(t, 1, 81, lim), created(t, 2, 81, lim)
	packet := alice.initiates("the packet", "bob", bob.publishes("the bundle"), "text", "data")
	right := scene{t: t, list: bob.w.list, x: call{name: "Accept", peer: "alice", bytes: packet, turn: draw(3), data: []byte("data")}}
	plain := func(b []byte) []byte { return joined([]byte{1, 2}, b[70:]) }
	low := append([]byte{1}, zeros(31)...)
	faults := append([]fault{closed()}, turnFaults()...)
	faults = append(append(faults, nameFaults()...), roomFaults("alice")...)
	faults = append(faults,
		bending("no bytes", "10", cut(0)), bending("version 2", "140", putting(0, 2, 9)), bending("a bundle's kind", "103", putting(1, 3)), bending("cut in the header", "10", cut(100)),
		fault{"no identity", "hello bend", "141", writing(2, zeros(32)...)}, fault{"prekey 0", "number-in-hello bend", "141", writing(66, zeros(4)...)},
		bending("a body of 31 bytes", "10", putting(130, 0, 31)), bending("a body of 545 bytes", "5", putting(130, 2, 0x21)), bending("cut", "10", cutBy(1)), bending("a byte more", "11", byteMore),
		fault{"a plain one", "hello number-in-hello bend once", "141", func(s *scene) { s.bend = plain }},
		fault{"no prekey", "prekey", "190", taking(3, four(1))}, fault{"another prekey", "number-in-hello", "190", writing(66, four(2)...)},
		fault{"a prekey of 63 bytes", "prekey", "123", laying(rec(3, four(1), zeros(63)))},
		fault{"a low identity", "hello", "70", writing(2, low...)}, fault{"a low once", "once", "70", writing(34, low...)},
		fault{"data of 65 bytes", "data", "5", func(s *scene) { s.x.data = zeros(65) }},
		fault{"another sid", "sid", "160", turning(70)}, fault{"turn 1", "header-turn", "162", writing(86, four(1)...)},
		fault{"number 100", "number", "130", writing(126, four(100)...)}, fault{"prev 1", "prev", "163", writing(122, four(1)...)},
		fault{"number 5", "number", "164", writing(126, four(5)...)}, fault{"number 4", "number", "150", writing(126, four(4)...)},
		fault{"a low key", "key", "70", writing(90, low...)}, fault{"another body", "body", "50", turning(140)},
		fault{"other data", "data", "50", func(s *scene) { s.x.data = []byte("datb") }})
	areToldInOrder(t, right, append(faults, commitFaults()...))
}

// altered: the state of the session with that peer is another one.
func altered(peer string, alter func(st *api.State)) func(s *scene) {
	return func(s *scene) {
		key := sessionOf(peer).Key
		for _, r := range s.list {
			if r.Table != 4 || !bytes.Equal(r.Key, key) {
				continue
			}
			st, _ := state.Decode(r.Value)
			alter(&st)
			value, e := state.Encode(st)
			isCode(s.t, "Encode", e, 0)
			s.list = with(s.list, rec(4, key, value))
			return
		}
		s.t.Fatalf("no session of %q", peer)
	}
}

// stateFaults: of the session with that peer.
func stateFaults(peer string) []fault {
	key := sessionOf(peer).Key
	bent := func(bend func([]byte) []byte) func(s *scene) {
		return func(s *scene) {
			for _, r := range s.list {
				if r.Table == 4 && bytes.Equal(r.Key, key) {
					s.list = with(s.list, rec(4, key, bend(bytes.Clone(r.Value))))
					return
				}
			}
		}
	}
	return []fault{
		{"no session", "session", "211", taking(4, key)},
		{"an empty state", "session", "180", bent(cut(0))}, {"a cut state", "session", "180", bent(cutBy(1))},
		{"a state and a byte", "session", "180", bent(byteMore)}, {"a state of another version", "session", "180", bent(putting(0, 2))},
	}
}

// P22.1: Send.
func TestOrderOfSend(t *testing.T) {
	alice, bob := created(t, 1, 81, someLimits()), created(t, 2, 81, someLimits())
	alice.initiates("the state", "bob", bob.publishes("the bundle"), "text", "")
	alice.takes("the state", call{name: "Ack", peer: "bob", serial: 0})
	right := scene{t: t, list: alice.w.list, x: call{name: "Send", peer: "bob", text: []byte("text"), data: []byte("data")}}
	faults := append([]fault{closed()}, nameFaults()...)
	faults = append(append(faults, stateFaults("bob")...), longFaults()...)
	faults = append(faults,
		fault{"no own turn", "session", "165", altered("bob", func(st *api.State) { *st = api.State{Sid: st.Sid, Root: st.Root} })},
		fault{"the counter's end", "session", "130", altered("bob", func(st *api.State) { st.Sent, st.Serial = 100, 100 })},
		fault{"a hello of prekey 0", "session", "141", altered("bob", func(st *api.State) { st.Hello.Prekey = 0 })})
	faults = append(faults, mailFaults(1)...)
	areToldInOrder(t, right, append(faults, commitFaults()...))
}

// skippedOf: a record of table 5, of alice's.
func skippedOf(place []byte, size int) api.Record {
	return rec(5, joined([]byte("\x05alice"), place), zeros(size))
}

func skippedFaults() []fault {
	return []fault{
		{"a place of 7 bytes", "strange", "180", laying(skippedOf(zeros(7), 32))}, {"a place of 9 bytes", "strange", "180", laying(skippedOf(zeros(9), 32))},
		{"a key of 31 bytes", "strange", "180", laying(skippedOf(zeros(8), 31))}, {"a key of 33 bytes", "strange", "180", laying(skippedOf(zeros(8), 33))},
	}
}

// P22.1: Receive, of a further message of the turn that goes on, behind one that is missing.
func TestOrderOfReceive(t *testing.T) {
	alice, bob := begun(t, someLimits())
	alice.sends("the missing one", "bob", "lost", "")
	alice.takes("the missing one", call{name: "Ack", peer: "bob", serial: 0})
	packet := alice.sends("the packet", "bob", "text", "data")
	right := scene{t: t, list: bob.w.list, x: call{name: "Receive", peer: "alice", bytes: packet, turn: draw(3), data: []byte("data")}}
	place := func(n uint32) []byte { return joined(four(0), four(n)) }
	var eight []api.Record
	for n := range uint32(8) {
		eight = append(eight, skippedOf(joined(four(7), four(n)), 32))
	}
	faults := append(append([]fault{closed()}, turnFaults()...), nameFaults()...)
	faults = append(append(faults, stateFaults("alice")...), skippedFaults()...)
	faults = append(faults,
		bending("no bytes", "10", cut(0)), bending("version 2", "140", putting(0, 2, 9)), bending("a bundle's kind", "103", putting(1, 3)), bending("cut in the header", "10", cut(100)),
		fault{"no identity", "hello bend", "141", writing(2, zeros(32)...)},
		bending("a body of 31 bytes", "10", putting(130, 0, 31)), bending("a body of 545 bytes", "5", putting(130, 2, 0x21)), bending("cut", "10", cutBy(1)), bending("a byte more", "11", byteMore),
		fault{"data of 65 bytes", "data", "5", func(s *scene) { s.x.data = zeros(65) }},
		fault{"another sid", "sid", "160", turning(85)}, fault{"number 0", "number header-turn", "161", writing(126, zeros(4)...)},
		fault{"turn 2", "header-turn", "162", writing(86, four(2)...)}, fault{"number 100", "number", "130", writing(126, four(100)...)},
		fault{"another key", "key", "163", turning(90)}, fault{"number 6", "number", "164", writing(126, four(6)...)},
		fault{"eight skipped keys", "keys", "150", laying(eight...)},
		fault{"the missing one's key", "keys", "151", laying(skippedOf(place(1), 32))}, fault{"its own key", "keys", "151", laying(skippedOf(place(2), 32))},
		fault{"another body", "body", "50", turning(140)}, fault{"other data", "data", "50", func(s *scene) { s.x.data = nil }})
	areToldInOrder(t, right, append(faults, commitFaults()...))
}

// P22.1: Ack and Forget, which a disk without room takes too.
func TestOrderOfAckAndForget(t *testing.T) {
	alice, _ := begun(t, someLimits())
	right := scene{t: t, list: alice.w.list, x: call{name: "Ack", peer: "bob", serial: 0}}
	faults := append([]fault{closed()}, nameFaults()...)
	acks := append(faults,
		fault{"another serial", "serial", "201", func(s *scene) { s.x.serial = 1 }}, fault{"another peer", "name", "201", func(s *scene) { s.x.peer = "bobb" }},
		fault{"no packet", "mail", "201", taking(6, mailOf(0).Key)}, downFault())
	areToldInOrder(t, right, acks)
	right.full = true
	right.plays("no room", "nil")

	right = scene{t: t, list: alice.w.list, x: call{name: "Forget", peer: "bob"}}
	forgets := append(faults[:len(faults):len(faults)],
		fault{"no session", "session", "211", taking(4, sessionOf("bob").Key)}, fault{"another peer", "name", "211", func(s *scene) { s.x.peer = "bobb" }},
		fault{"a packet's key of 3 bytes", "stray", "180", laying(rec(6, []byte("\x03bob\x00\x00\x00"), nil))}, downFault())
	areToldInOrder(t, right, forgets)
	right.full = true
	right.plays("no room", "nil")
}

// P22.1: the asking calls; the disk is not asked.
func TestOrderOfAsks(t *testing.T) {
	_, bob := begun(t, someLimits())
	bob.sends("a packet", "alice", "text", "")
	asked := func(x call, faults ...fault) {
		t.Helper()
		areToldInOrder(t, scene{t: t, list: bob.w.list, x: x}, append([]fault{closed()}, faults...))
		areToldInOrder(t, scene{t: t, list: bob.w.list, x: x, down: true}, append([]fault{closed()}, faults...))
	}
	told := append(append(nameFaults(), stateFaults("alice")...), skippedFaults()...)
	told = append(told, fault{"a packet's key of 3 bytes", "stray", "180", laying(rec(6, []byte("\x05alice\x00\x00\x00"), nil))})
	asked(call{name: "Tell", peer: "alice"}, told...)
	asked(call{name: "Replay", peer: "alice"}, told...)
	asked(call{name: "Peers"}, fault{"no name's key", "names", "180", laying(rec(4, []byte("\x02x"), nil))})
	asked(call{name: "Prekeys"}, fault{"a prekey's key of 3 bytes", "keys", "123", laying(rec(3, zeros(3), nil))}, fault{"a prekey's key of 5 bytes", "more", "123", laying(rec(3, zeros(5), nil))})
	for _, name := range []string{"Identity", "Records", "Pages"} {
		asked(call{name: name})
	}
}
