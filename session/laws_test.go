package session_test

import (
	"fmt"
	"math/rand"
	"slices"
	"testing"

	"lethe/api"
)

// talk: two clients, what is on its way to each, and what each has taken.
type talk struct {
	sides  [2]*bench
	names  [2]string // how each calls the other
	coming [2][]letter
	taken  [2][]letter
	count  int
}

func newTalk(t *testing.T, lim api.Limits) *talk {
	t.Helper()
	a, b := client(t, 1, lim), client(t, 2, lim)
	k := &talk{sides: [2]*bench{a, b}, names: [2]string{"bob", "alice"}}
	k.coming[1] = []letter{{a.initiates("a talk", "bob", b.prekey(1), "the first", "d"), "the first", "d"}}
	return k
}

func (k *talk) says(what string, who int) {
	k.sides[who].t.Helper()
	k.count++
	m := k.sides[who].writes(what, k.names[who], fmt.Sprint("text ", k.count), fmt.Sprint("data ", k.count%5))
	k.coming[1-who] = append(k.coming[1-who], m)
}

// hears: the message number at of those that are on their way comes, by Accept, if there is no session yet.
func (k *talk) hears(what string, who, at int) {
	x, m := k.sides[who], k.coming[who][at]
	x.t.Helper()
	if _, there := wordsGet(x.list, 4, wordsPeer(k.names[who])); there {
		x.reads(what, k.names[who], m)
	} else {
		x.accepts(what, k.names[who], m.packet, m.data, m.text)
	}
	k.coming[who] = slices.Delete(slices.Clone(k.coming[who]), at, at+1)
	k.taken[who] = append(k.taken[who], m)
}

// again: P21.12: all that was taken is refused, with its data and with other, and by Accept too.
func (k *talk) again(what string) {
	for who, x := range k.sides {
		x.t.Helper()
		for _, m := range k.taken[who] {
			x.refuses("P21.12: "+what+": once more", k.names[who], m.packet, m.data, 161)
			x.refuses("P21.12: "+what+": once more, other data", k.names[who], m.packet, "other", 161)
			if m.packet[1] == 1 {
				x.refusesAccept("P21.12: "+what+": once more", k.names[who], m.packet, m.data, 210)
				x.refusesAccept("P21.12: "+what+": once more, as somebody else's", "carol", m.packet, m.data, 190)
			}
		}
	}
}

// agree: P21.11: one sid, and of each the other's identity.
func (k *talk) agree(what string) {
	a, b := k.sides[0], k.sides[1]
	a.t.Helper()
	s, e := a.tell(what, k.names[0])
	r, f := b.tell(what, k.names[1])
	if e != 0 || f != 0 || s.Sid != r.Sid || s.Identity != b.own().Pub || r.Identity != a.own().Pub {
		a.t.Errorf("P21.11: %s: %+v, %d, and %+v, %d", what, s, e, r, f)
	}
}

// keep: now and then what was done is committed, or opened anew.
func (k *talk) keep(r *rand.Rand) {
	for _, x := range k.sides {
		switch r.Intn(12) {
		case 0:
			x.commit()
		case 1:
			x.commit()
			x.reopen()
		}
	}
}

// P21.11, P21.12: drawn talks: packets come late, out of order, many turns behind, or again; each is opened once to its text.
func TestDrawnTalks(t *testing.T) {
	r := rand.New(rand.NewSource(2111))
	for run := range 10 {
		k := newTalk(t, wide())
		for n := range 90 {
			what := fmt.Sprintf("run %d, step %d", run, n)
			who := r.Intn(2)
			switch waiting := len(k.coming[who]); {
			case waiting > 0 && (waiting > 12 || r.Intn(2) == 0):
				at := r.Intn(waiting)
				if r.Intn(3) == 0 {
					at = waiting - 1
				}
				k.hears(what, who, at)
			case who == 1 && len(k.taken[1]) == 0:
			default:
				if s := k.sides[who].state(k.names[who]); len(wordsUnder(k.sides[who].list, 6, nil)) < 64 && s.Own > 0 {
					k.says(what, who)
				}
			}
			k.keep(r)
			if t.Failed() {
				return
			}
		}
		for who := range 2 {
			for len(k.coming[who]) > 0 {
				k.hears(fmt.Sprintf("run %d: at last", run), who, r.Intn(len(k.coming[who])))
			}
			if s, e := k.sides[who].tell("at last", k.names[who]); e != 0 || s.Skipped != 0 {
				t.Errorf("P21.11: run %d: all have come, and %d keys are left", run, s.Skipped)
			}
		}
		k.agree(fmt.Sprintf("run %d", run))
		k.again(fmt.Sprintf("run %d", run))
	}
}

// P21.11: everything that two clients can do in a few steps: each sends, or one of the packets comes, in all orders.
func TestAllShortTalks(t *testing.T) {
	talks := 0
	var play func(steps []int)
	play = func(steps []int) { // each step picks one of what can be done
		k := newTalk(t, wide())
		choices := 0
		for _, pick := range append(steps, -1) {
			var can []func(what string)
			for who := range 2 {
				if _, there := wordsGet(k.sides[who].list, 4, wordsPeer(k.names[who])); there {
					can = append(can, func(what string) { k.says(what, who) })
				}
				for at := range k.coming[who] {
					can = append(can, func(what string) { k.hears(what, who, at) })
				}
			}
			if choices = len(can); pick >= 0 {
				can[pick](fmt.Sprint("a short talk ", steps))
			}
		}
		talks++
		if len(steps) == 5 {
			if _, there := wordsGet(k.sides[1].list, 4, wordsPeer("alice")); there {
				k.agree(fmt.Sprint("a short talk ", steps))
			}
			return
		}
		for pick := range choices {
			if !t.Failed() {
				play(append(slices.Clone(steps), pick))
			}
		}
	}
	play(nil)
	if talks < 200 {
		t.Errorf("%d talks alone", talks)
	}
}

// flight: a letter, from one client to another.
type flight struct {
	letter
	from, to int
}

// run: three clients under narrow limits, who call one another, in drawn runs; the words say what each call answers.
type run struct {
	r       *rand.Rand
	all     []*bench
	bundles [3][][]byte // of each
	flights []flight
	count   map[string]map[api.Errno]int
}

func (u *run) note(call string, e api.Errno) {
	if u.count[call] == nil {
		u.count[call] = map[api.Errno]int{}
	}
	u.count[call][e]++
}

func runNames() []string { return []string{"a", "aa", "b", "other", "", "0123456789abcdefg"} }

// odd: once in a while.
func (u *run) odd() bool { return u.r.Intn(12) == 0 }

// name: the client's, or now and then another.
func (u *run) name(who int) string {
	if u.odd() {
		return runNames()[u.r.Intn(len(runNames()))]
	}
	return runNames()[who]
}

func (u *run) step(what string) {
	from := u.r.Intn(3)
	x, to := u.all[from], (from+1+u.r.Intn(2))%3
	x.t.Helper()
	m := flight{letter{text: "text of " + what, data: []string{"", "d"}[u.r.Intn(2)]}, from, to}
	var e api.Errno
	switch u.r.Intn(24) {
	case 0, 1:
		if number, _ := wordsGet(x.list, 7, one()); len(wordsUnder(x.list, 3, nil)) < 4 {
			u.bundles[from] = append(u.bundles[from], x.prekey(wordsNumber(number)+1))
		}
	case 2, 3, 4:
		if list := u.bundles[to]; len(list) > 0 {
			bundle := list[len(list)-1-u.r.Intn(min(2, len(list)))]
			m.packet, e = x.initiate(what, u.name(to), bundle, x.draw(), x.draw(), []byte(m.text), []byte(m.data))
			u.flies("Initiate", m, e)
		}
	case 5, 6, 7, 8, 9, 10:
		_, m.packet, e = x.send(what, u.name(to), []byte(m.text), []byte(m.data))
		u.flies("Send", m, e)
	case 11:
		if u.r.Intn(3) == 0 {
			u.note("Forget", x.forget(what, u.name(to)))
		}
	case 12:
		for _, r := range wordsUnder(x.list, 6, nil) {
			if u.r.Intn(3) > 0 {
				x.take(6, r.Key)
			}
		}
	case 13:
		x.commit()
	case 14:
		if u.odd() {
			x.abort()
		}
	default:
		u.lands(what)
	}
}

func (u *run) flies(call string, m flight, e api.Errno) {
	u.note(call, e)
	if e == 0 {
		u.flights = append(u.flights, m)
	}
}

// lands: one of the newest packets comes, mostly where it belongs, and as whose it is.
func (u *run) lands(what string) {
	if len(u.flights) == 0 {
		return
	}
	m := u.flights[max(0, len(u.flights)-1-u.r.Intn(9))]
	if u.odd() {
		m.to = u.r.Intn(3)
	}
	if u.odd() {
		m.data += "x"
	}
	x, peer := u.all[m.to], u.name(m.from)
	x.t.Helper()
	call, name := x.receive, "Receive"
	if _, there := wordsGet(x.list, 4, wordsPeer(peer)); there == u.odd() {
		call, name = x.accept, "Accept"
	}
	text, e := call(what, peer, m.packet, x.draw(), []byte(m.data))
	u.note(name, e)
	if e == 0 && string(text) != m.text {
		x.t.Errorf("P21.11: %s: %q, want %q", what, text, m.text)
	}
}

// P21.1 to P21.10: drawn runs of three clients under narrow limits, with Commit and Abort between.
func TestDrawnRuns(t *testing.T) {
	u := &run{count: map[string]map[api.Errno]int{}}
	for n := range 40 {
		u.r = rand.New(rand.NewSource(int64(2100 + n)))
		lim := api.Limits{Peers: 1 + n%3, Prekeys: 8, Skip: n % 5, Skips: n % 6, Outbox: 2 + n%4, Counter: uint32(4 + 2*n)}
		u.all, u.bundles, u.flights = nil, [3][][]byte{}, nil
		for who := range 3 {
			u.all = append(u.all, client(t, 3*n+who, lim))
		}
		for k := range 400 {
			what := fmt.Sprintf("run %d, step %d", n, k)
			u.step(what)
			if k%7 == 0 {
				x := u.all[u.r.Intn(3)]
				x.peers(what)
				for _, peer := range runNames() {
					x.tell(what, peer)
				}
			}
			if t.Failed() {
				return
			}
		}
	}
	for call, codes := range map[string][]api.Errno{
		"Initiate": {0, 210, 212, 213}, "Send": {0, 130, 200, 211, 212}, "Forget": {0, 211}, "Accept": {0, 50, 141, 190, 210, 212}, "Receive": {0, 50, 150, 160, 161, 164, 211, 212},
	} {
		for _, e := range codes {
			if u.count[call][e] < 10 {
				t.Errorf("%s has answered %d only %d times", call, e, u.count[call][e])
			}
		}
	}
}
