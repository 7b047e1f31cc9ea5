package session

import (
	"lethe/agree"
	"lethe/api"
	"lethe/curve"
	"lethe/header"
	"lethe/keyring"
	"lethe/outbox"
	"lethe/ratchet"
	"lethe/state"
)

// begin: the state of the one who writes first.
func (d desk) begin(offer api.Offer, once, turn api.Key) api.State {
	own := must(keyring.Identity(d.t))
	secret, sid, bind, hello, e := agree.Start(own, pairOf(once), offer)
	demand(e)
	s := must(ratchet.Begin(secret, sid, bind, pairOf(turn), offer.Key))
	s.Hello = hello
	return s
}

// meet: the state of the one who was written to, ahead of the first packet.
func (d desk) meet(hello api.Hello) api.State {
	own := must(keyring.Identity(d.t))
	prekey := must(keyring.Find(d.t, hello.Prekey)) // found, not used: a packet that doesn't open must not cost the prekey
	secret, sid, bind, e := agree.Meet(own, prekey, hello)
	demand(e)
	return ratchet.Answer(secret, sid, bind, prekey)
}

// pairOf: a draw that is a Key has the bytes that it must have: it is never refused.
func pairOf(draw api.Key) api.Pair {
	pair, _ := curve.NewPair(draw[:])
	return pair
}

// send: a step of this state: its packet is in the outbox then, and the state behind it is put.
func (d desk) send(s api.State, text, data []byte) api.Mail {
	next, h, body, e := ratchet.Send(s, d.limits.Counter, text, data)
	demand(e)
	packet := must(header.Pack(packetOf(s.Hello, h, body)))
	value := must(state.Encode(next))
	demand(outbox.Put(d.t, d.peer, s.Serial, packet, d.limits.Outbox))
	d.t.Put(sessionTable, d.bytes, value)
	return api.Mail{Peer: d.peer, Serial: s.Serial, Bytes: packet}
}

// packetOf: with the hello, as long as there is one.
func packetOf(hello api.Hello, h api.Header, body []byte) api.Packet {
	if hello.Identity == (api.Key{}) {
		return api.Packet{Kind: api.Plain, Header: h, Body: body}
	}
	return api.Packet{Kind: api.First, Hello: hello, Header: h, Body: body}
}

// arrival: what a packet's step has come to, of which nothing is put yet.
type arrival struct {
	value       []byte // the state's
	fresh, gone []api.Skipped
	text        []byte
}

// open: a step of this state and these skipped keys.
func (d desk) open(s api.State, skipped []api.Skipped, p api.Packet, data []byte, turn api.Key) arrival {
	next, left, text, e := ratchet.Receive(s, skipped, d.limits, p.Header, p.Body, data, turn)
	demand(e)
	return arrival{
		value: must(state.Encode(next)),
		fresh: lacking(left, skipped),
		gone:  lacking(skipped, left),
		text:  text,
	}
}

// keep: none of this is refused.
func (d desk) keep(a arrival) {
	d.t.Put(sessionTable, d.bytes, a.value)
	for _, x := range a.gone {
		d.t.Delete(skippedTable, skippedKey(d.bytes, x))
	}
	for _, x := range a.fresh {
		d.t.Put(skippedTable, skippedKey(d.bytes, x), x.Key[:])
	}
}
