package world_test

import (
	"bytes"
	"encoding/binary"
	"fmt"
	"slices"
	"testing"

	"lethe/api"
	"lethe/header"
	"lethe/keyring"
	"lethe/sectors"
	"lethe/session"
	"lethe/store"
)

// held: a bundle that was handed to a node.
type held struct {
	from  int
	bytes []byte
}

// spot: a node: its client's records, and the disk on which they stand.
type spot struct {
	created bool
	size    int // sectors
	disk    plain
	ended   api.Errno // 0: its client is open
	list    []api.Record
	used    int
	bundles []held
}

// packet: one that was sent or copied, and whether it is on its way still.
type packet struct {
	from, to int
	bytes    string
	here     bool
}

// letter: what a packet carries, and between whom.
type letter struct {
	from, to   int
	text, data string
}

// place: of two numbers.
type place struct{ a, b int }

// room: a world made from the chapter's words: every packet that ever was at the place of its number; a client's call is made within a transaction over its records, laid anew onto a disk of their own.
type room struct {
	t      *testing.T
	lim    api.Limits
	spots  []spot
	air    []packet
	flying int
	made   map[string]letter // what every packet carries that a client has made, whether it was told or not
	served map[place]int     // how often a node's prekey has served, as it was told
}

func newRoom(t *testing.T, nodes int, lim api.Limits) *room {
	return &room{t: t, lim: lim, spots: make([]spot, nodes), made: map[string]letter{}, served: map[place]int{}}
}

// laid: a store of these records on a new disk.
func laid(size int, list []api.Record) (*sectors.Device, *store.Store, error) {
	d, _ := sectors.New(size)
	s, err := store.Load(d, list)
	return d, s, err
}

// does: a client's changing call: the first error, in the chapters' order.
func (r *room) does(p *spot, within func(t *store.Tx) api.Errno) api.Errno {
	d, s, err := laid(p.size, p.list)
	if err != nil {
		r.t.Fatalf("records without room: %v", err)
	}
	if !bytes.Equal(d.Image(), p.disk.image) {
		r.t.Errorf("P7: the image is not that of a new disk onto which just these records were put")
	}
	t, _ := s.Begin()
	if e := within(t); e != 0 {
		return e
	}
	if err := t.Commit(); err != nil {
		return api.Code(err)
	}
	if p.disk.commit(d.Image()); p.disk.down {
		p.ended, p.list, p.used = 80, nil, 0
		return 80
	}
	p.list = s.All()
	_, p.used = s.Pages()
	return 0
}

// asks: a client's asking call.
func (r *room) asks(p *spot, within func(t *store.Tx) api.Errno) api.Errno {
	_, s, _ := laid(p.size, p.list)
	t, _ := s.Begin()
	return within(t)
}

func (r *room) is(k int) bool { return k >= 1 && k <= len(r.spots) }

func nameOf(k int) string { return fmt.Sprint("node ", k) }

func four(n uint32) []byte { return binary.BigEndian.AppendUint32(nil, n) }

func (r *room) play(s api.Step) api.Answer {
	if s.Kind < 1 || s.Kind > 15 {
		return api.Answer{Code: 244}
	}
	if slices.Contains([]int{5, 6, 7}, s.Kind) {
		return r.playAir(s)
	}
	if !r.is(s.Node) {
		return api.Answer{Code: 240}
	}
	if slices.Contains([]int{2, 3, 4, 8, 9, 10, 14, 15}, s.Kind) && (!r.is(s.Peer) || s.Peer == s.Node) {
		return api.Answer{Code: 240}
	}
	p := &r.spots[s.Node-1]
	if s.Kind == 1 {
		return r.create(p, s)
	}
	if !p.created {
		return api.Answer{Code: 242}
	}
	switch {
	case s.Kind == 11:
		return r.arm(p, s)
	case s.Kind == 12:
		return r.boot(p, s)
	case p.ended != 0:
		return api.Answer{Code: p.ended}
	}
	return r.playOpen(p, s)
}

// playAir: of the kinds that name no node.
func (r *room) playAir(s api.Step) api.Answer {
	if s.A < 0 || s.A >= len(r.air) || !r.air[s.A].here {
		return api.Answer{Code: 230}
	}
	x := r.air[s.A]
	if s.Kind == 7 {
		k, e := r.sends(x.from, x.to, x.bytes)
		return api.Answer{Code: e, A: k}
	}
	r.air[s.A].here = false
	r.flying--
	if s.Kind == 6 {
		return api.Answer{}
	}
	if !r.spots[x.to-1].created {
		return api.Answer{Code: 242}
	}
	text, e := r.comes(x.to, x.from, []byte(x.bytes), s)
	if e != 0 {
		return api.Answer{Code: e}
	}
	return api.Answer{A: x.to, B: x.from, Bytes: text}
}

func (r *room) sends(from, to int, b string) (int, api.Errno) {
	if r.flying == 4096 {
		return 0, 231
	}
	r.flying++
	r.air = append(r.air, packet{from, to, b, true})
	return len(r.air) - 1, 0
}

// comes: a packet as one of another node; its text.
func (r *room) comes(to, from int, b []byte, s api.Step) (text string, e api.Errno) {
	p, peer := &r.spots[to-1], nameOf(from)
	if p.ended != 0 {
		return "", p.ended
	}
	there := slices.ContainsFunc(p.list, func(x api.Record) bool { return x.Table == 4 && string(x.Key[1:]) == peer })
	first := false
	if x, e := header.Unpack(b); e == 0 && x.Kind == 1 && !there {
		first = true
	}
	var opened []byte
	e = r.does(p, func(t *store.Tx) (e api.Errno) {
		if first {
			opened, e = session.Accept(t, peer, b, s.Draw, s.Data)
		} else {
			opened, e = session.Receive(t, peer, b, s.Draw, s.Data)
		}
		return e
	})
	if e != 0 {
		return "", e
	}
	if first {
		which := place{to, int(binary.BigEndian.Uint32(b[66:]))}
		if r.served[which]++; r.served[which] > 1 {
			r.t.Errorf("P6: a prekey of node %d serves %d times", to, r.served[which])
		}
	}
	return string(opened), 0
}

func (r *room) create(p *spot, s api.Step) api.Answer {
	if s.A < 1 || s.A > 250 {
		return api.Answer{Code: 4}
	}
	if p.created {
		return api.Answer{Code: 241}
	}
	list, _ := keyring.Records(r.lim, s.Draw[:])
	d, st, err := laid(4*s.A+1, list)
	if err != nil {
		return api.Answer{Code: api.Code(err)}
	}
	_, used := st.Pages()
	p.created, p.size, p.disk, p.list, p.used = true, 4*s.A+1, plain{image: d.Image()}, list, used
	return api.Answer{Bytes: string(list[1].Value[32:])}
}

func (r *room) arm(p *spot, s api.Step) api.Answer {
	switch {
	case p.disk.down:
		return api.Answer{Code: 80}
	case s.A < 0:
		return api.Answer{Code: 4}
	}
	p.disk.arm(s.A, s.Loss)
	return api.Answer{}
}

func (r *room) boot(p *spot, s api.Step) api.Answer {
	if p.ended == 0 {
		return api.Answer{Code: 243}
	}
	p.disk.up()
	if s.A > 0 {
		p.disk.arm(s.A, s.Loss)
	}
	if p.disk.open(); p.disk.down {
		return api.Answer{Code: 80}
	}
	d, _ := sectors.Load(p.disk.image)
	st, err := store.Open(d)
	if err != nil {
		r.t.Fatalf("P4: a disk can't be opened: %v", err)
	}
	_, p.used = st.Pages()
	p.ended, p.list = 0, st.All()
	return api.Answer{A: len(p.list)}
}
