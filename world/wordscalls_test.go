package world_test

import (
	"lethe/api"
	"lethe/header"
	"lethe/keyring"
	"lethe/outbox"
	"lethe/session"
	"lethe/store"
)

// playOpen: of the kinds that need an open client.
func (r *room) playOpen(p *spot, s api.Step) api.Answer {
	peer := nameOf(s.Peer)
	switch s.Kind {
	case 2:
		return r.publish(p, s)
	case 3:
		return r.initiate(p, s)
	case 4:
		return r.send(p, s)
	case 8:
		if s.A < 0 || s.A > 1<<32-1 {
			return api.Answer{Code: 4}
		}
		return api.Answer{Code: r.does(p, func(t *store.Tx) api.Errno { return outbox.Ack(t, peer, uint32(s.A)) })}
	case 9:
		return r.replay(p, s)
	case 10:
		return api.Answer{Code: r.does(p, func(t *store.Tx) api.Errno { return session.Forget(t, peer) })}
	case 13:
		p.ended, p.list, p.used = 220, nil, 0
		return api.Answer{}
	case 14:
		text, e := r.comes(s.Node, s.Peer, s.Text, s)
		return api.Answer{Code: e, Bytes: text}
	}
	return r.status(p, s)
}

func (r *room) publish(p *spot, s api.Step) api.Answer {
	var offers []api.Offer
	e := r.does(p, func(t *store.Tx) (e api.Errno) {
		offers, e = keyring.Publish(t, s.Draw[:])
		return e
	})
	if e != 0 {
		return api.Answer{Code: e}
	}
	b := header.Offer(offers[0])
	to := &r.spots[s.Peer-1]
	to.bundles = append(to.bundles, held{s.Node, b})
	return api.Answer{A: int(offers[0].Prekey), B: len(to.bundles), Bytes: string(b)}
}

func (r *room) initiate(p *spot, s api.Step) api.Answer {
	for i, x := range p.bundles {
		if x.from != s.Peer {
			continue
		}
		var b []byte
		e := r.does(p, func(t *store.Tx) (e api.Errno) {
			b, e = session.Initiate(t, nameOf(s.Peer), x.bytes, s.Draw, s.Other, s.Text, s.Data)
			r.note(s, b)
			return e
		})
		if e != 0 {
			return api.Answer{Code: e}
		}
		p.bundles = append(append([]held{}, p.bundles[:i]...), p.bundles[i+1:]...)
		return r.sentOff(s, b, 0)
	}
	return api.Answer{Code: 245}
}

func (r *room) send(p *spot, s api.Step) api.Answer {
	var b []byte
	var serial uint32
	e := r.does(p, func(t *store.Tx) (e api.Errno) {
		serial, b, e = session.Send(t, nameOf(s.Peer), s.Text, s.Data)
		r.note(s, b)
		return e
	})
	if e != 0 {
		return api.Answer{Code: e}
	}
	return r.sentOff(s, b, serial)
}

// note: what a packet carries.
func (r *room) note(s api.Step, b []byte) {
	if b != nil {
		r.made[string(b)] = letter{s.Node, s.Peer, string(s.Text), string(s.Data)}
	}
}

func (r *room) sentOff(s api.Step, b []byte, serial uint32) api.Answer {
	k, e := r.sends(s.Node, s.Peer, string(b))
	if e != 0 {
		return api.Answer{Code: e, A: -1}
	}
	return api.Answer{A: k, B: int(serial), Bytes: string(b)}
}

func (r *room) replay(p *spot, s api.Step) api.Answer {
	var mails []api.Mail
	e := r.asks(p, func(t *store.Tx) (e api.Errno) {
		if _, e = session.Tell(t, nameOf(s.Peer)); e == 0 {
			mails, e = outbox.List(t, nameOf(s.Peer))
		}
		return e
	})
	if e != 0 {
		return api.Answer{Code: e}
	}
	for i, m := range mails {
		if _, e := r.sends(s.Node, s.Peer, string(m.Bytes)); e != 0 {
			return api.Answer{Code: e, A: i}
		}
	}
	return api.Answer{A: len(mails)}
}

func (r *room) status(p *spot, s api.Step) api.Answer {
	var x api.Status
	e := r.asks(p, func(t *store.Tx) (e api.Errno) {
		x, e = session.Tell(t, nameOf(s.Peer))
		return e
	})
	if e != 0 {
		return api.Answer{Code: e}
	}
	return api.Answer{A: int(x.Sent), B: int(x.Got), Bytes: string(x.Sid[:]) + string(four(x.Own)) + string(four(x.Turns))}
}

func (r *room) views() []api.View {
	var all []api.View
	for i, p := range r.spots {
		v := api.View{Node: i + 1, Created: p.created, Up: p.created && p.ended == 0, Pages: p.used}
		for _, x := range p.list {
			switch x.Table {
			case 3:
				v.Prekeys++
			case 4:
				v.Peers++
			case 6:
				v.Unanswered++
			}
		}
		all = append(all, v)
	}
	return all
}

func (r *room) flights() []api.Flight {
	var all []api.Flight
	for k, x := range r.air {
		if x.here {
			all = append(all, api.Flight{Number: k, From: x.from, To: x.to, Bytes: []byte(x.bytes)})
		}
	}
	return all
}

func (r *room) image(k int) ([]byte, api.Errno) {
	switch {
	case !r.is(k):
		return nil, 240
	case !r.spots[k-1].created:
		return nil, 242
	}
	return r.spots[k-1].disk.image, 0
}

func (r *room) records(k int) ([]api.Record, api.Errno) {
	if _, e := r.image(k); e != 0 {
		return nil, e
	}
	return r.spots[k-1].list, r.spots[k-1].ended
}
