package world

import (
	"math"
	"slices"

	"lethe/api"
	"lethe/client"
	"lethe/header"
	"lethe/sectors"
	"lethe/wal"
)

// lost: stands where the number of a packet would, if the network has refused it.
const lost = -1

func (w *World) create(s api.Step) api.Answer {
	if s.A < 1 || s.A > api.MaxPages {
		return justCode(api.ErrPlace)
	}
	n := w.node(s.Node)
	if n.created() {
		return justCode(api.ErrCreated)
	}
	disk, e := sectors.New(wal.Need(s.A))
	if e != api.OK {
		return justCode(e)
	}
	c, err := client.Create(disk, w.limits, s.Draw[:])
	if err != nil {
		return settled(err)
	}
	identity, err := c.Identity()
	if err != nil {
		return settled(err)
	}
	n.disk, n.client = disk, c
	return api.Answer{Bytes: string(identity[:])}
}

func (w *World) publish(s api.Step) api.Answer {
	bundles, err := w.node(s.Node).client.Publish(s.Draw[:])
	if err != nil {
		return settled(err)
	}
	made := bundle{from: s.Node, bytes: bundles[0]} // of one draw there is one
	offer, _ := header.ReadOffer(made.bytes)        // a client's own bundle is never refused
	peer := w.node(s.Peer)
	peer.bundles = append(peer.bundles, made)
	return api.Answer{A: int(offer.Prekey), B: len(peer.bundles), Bytes: string(made.bytes)}
}

func (w *World) initiate(s api.Step) api.Answer {
	n := w.node(s.Node)
	at := n.oldest(s.Peer)
	if at < 0 {
		return justCode(api.ErrBundles)
	}
	packet, err := n.client.Initiate(nameOf(s.Peer), n.bundles[at].bytes, s.Draw[:], s.Other[:], s.Text, s.Data)
	if err != nil {
		return settled(err)
	}
	n.bundles = slices.Delete(n.bundles, at, at+1)
	return w.setOut(s, 0, packet)
}

func (w *World) send(s api.Step) api.Answer {
	serial, packet, err := w.node(s.Node).client.Send(nameOf(s.Peer), s.Text, s.Data)
	if err != nil {
		return settled(err)
	}
	return w.setOut(s, serial, packet)
}

// setOut: a new packet. One that the network refuses is lost, but its client has made it, and can replay it.
func (w *World) setOut(s api.Step, serial uint32, packet []byte) api.Answer {
	k, e := w.net.Send(s.Node, s.Peer, packet)
	if e != api.OK {
		return api.Answer{Code: e, A: lost}
	}
	return api.Answer{A: k, B: int(serial), Bytes: string(packet)}
}

func (w *World) deliver(s api.Step) api.Answer {
	f, e := w.net.Deliver(s.A)
	if e != api.OK {
		return justCode(e)
	}
	n := w.node(f.To)
	if !n.created() {
		return justCode(api.ErrNot)
	}
	text, err := n.take(f.From, f.Bytes, s)
	if err != nil {
		return settled(err)
	}
	return api.Answer{A: f.To, B: f.From, Bytes: string(text)}
}

func (w *World) drop(s api.Step) api.Answer {
	return justCode(w.net.Drop(s.A))
}

func (w *World) double(s api.Step) api.Answer {
	k, e := w.net.Copy(s.A)
	return api.Answer{Code: e, A: k}
}

func (w *World) ack(s api.Step) api.Answer {
	if s.A < 0 || uint64(s.A) > math.MaxUint32 {
		return justCode(api.ErrPlace)
	}
	return settled(w.node(s.Node).client.Ack(nameOf(s.Peer), uint32(s.A)))
}

func (w *World) replay(s api.Step) api.Answer {
	mails, err := w.node(s.Node).client.Replay(nameOf(s.Peer))
	if err != nil {
		return settled(err)
	}
	for sent, m := range mails {
		if _, e := w.net.Send(s.Node, s.Peer, m.Bytes); e != api.OK {
			return api.Answer{Code: e, A: sent}
		}
	}
	return api.Answer{A: len(mails)}
}

func (w *World) forget(s api.Step) api.Answer {
	return settled(w.node(s.Node).client.Forget(nameOf(s.Peer)))
}

func (w *World) arm(s api.Step) api.Answer {
	return justCode(w.node(s.Node).disk.Arm(s.A, s.Loss))
}

func (w *World) boot(s api.Step) api.Answer {
	n := w.node(s.Node)
	if n.ended() == api.OK {
		return justCode(api.ErrRuns)
	}
	n.disk.Up() // also of a disk that is not down: it is not armed then
	if s.A > 0 {
		n.disk.Arm(s.A, s.Loss)
	}
	c, err := client.Open(n.disk)
	if err != nil {
		return settled(err)
	}
	n.client = c
	list, err := c.Records()
	return api.Answer{Code: api.Code(err), A: len(list)}
}

func (w *World) close(s api.Step) api.Answer {
	return settled(w.node(s.Node).client.Close())
}

func (w *World) junk(s api.Step) api.Answer {
	text, err := w.node(s.Node).take(s.Peer, s.Text, s)
	if err != nil {
		return settled(err)
	}
	return api.Answer{Bytes: string(text)}
}

func (w *World) status(s api.Step) api.Answer {
	told, err := w.node(s.Node).client.Tell(nameOf(s.Peer))
	if err != nil {
		return settled(err)
	}
	bytes := slices.Concat(told.Sid[:], fourBytes(told.Own), fourBytes(told.Turns))
	return api.Answer{A: int(told.Sent), B: int(told.Got), Bytes: string(bytes)}
}

// fourBytes: the highest first.
func fourBytes(n uint32) []byte {
	return []byte{byte(n >> 24), byte(n >> 16), byte(n >> 8), byte(n)}
}
