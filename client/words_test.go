package client_test

import (
	"lethe/api"
	"lethe/header"
	"lethe/keyring"
	"lethe/outbox"
	"lethe/sectors"
	"lethe/session"
	"lethe/store"
)

// messenger: the calls of a client, made by a client or by the words.
type messenger interface {
	Identity() (api.Key, error)
	Publish(draws ...[]byte) ([][]byte, error)
	Initiate(peer string, bundle, once, turn, text, data []byte) ([]byte, error)
	Accept(peer string, packet, turn, data []byte) ([]byte, error)
	Send(peer string, text, data []byte) (uint32, []byte, error)
	Receive(peer string, packet, turn, data []byte) ([]byte, error)
	Ack(peer string, serial uint32) error
	Replay(peer string) ([]api.Mail, error)
	Forget(peer string) error
	Peers() ([]string, error)
	Tell(peer string) (api.Status, error)
	Prekeys() ([]uint32, error)
	Records() ([]api.Record, error)
	Pages() (total, used int, err error)
	Close() error
}

// words: the chapter's sentences, said of a list of records that is laid anew, for each call, onto a disk of its own: what a client with these records on a disk of so many sectors answers, and which records it has then.
type words struct {
	size  int
	list  []api.Record
	ended api.Errno
}

// laid: a store of these records on a new disk, which must have room for them.
func laid(size int, list []api.Record) (*sectors.Device, *store.Store) {
	d, e := sectors.New(size)
	if e != 0 {
		panic(e)
	}
	s, err := store.Load(d, list)
	if err != nil {
		panic(err)
	}
	return d, s
}

// layout: the image of a new disk onto which just these records were put.
func layout(size int, list []api.Record) []byte {
	d, _ := laid(size, list)
	return d.Image()
}

// does: of a changing call the first error in the chapter's order; none: its records are there.
func (w *words) does(call string, ahead api.Errno, within func(t *store.Tx) api.Errno) error {
	if w.ended != 0 {
		return &api.Fault{Call: call, Err: w.ended}
	}
	if ahead != 0 {
		return &api.Fault{Call: call, Err: ahead}
	}
	_, s := laid(w.size, w.list)
	t, _ := s.Begin()
	if e := within(t); e != 0 {
		return &api.Fault{Call: call, Err: e}
	}
	if err := t.Commit(); err != nil {
		return &api.Fault{Call: call, Err: err}
	}
	w.list = s.All()
	return nil
}

// asks: of an asking call.
func (w *words) asks(call string, within func(t *store.Tx) api.Errno) error {
	if w.ended != 0 {
		return &api.Fault{Call: call, Err: w.ended}
	}
	_, s := laid(w.size, w.list)
	t, _ := s.Begin()
	if e := within(t); e != 0 {
		return &api.Fault{Call: call, Err: e}
	}
	return nil
}

func draws32(list ...[]byte) api.Errno {
	for _, b := range list {
		if len(b) != 32 {
			return 71
		}
	}
	return 0
}

func (w *words) Publish(draws ...[]byte) (bundles [][]byte, err error) {
	ahead := draws32(draws...)
	if len(draws) == 0 {
		ahead = 6
	}
	err = w.does("Publish", ahead, func(t *store.Tx) api.Errno {
		offers, e := keyring.Publish(t, draws...)
		for _, o := range offers {
			bundles = append(bundles, header.Offer(o))
		}
		return e
	})
	if err != nil {
		return nil, err
	}
	return bundles, nil
}

func (w *words) Initiate(peer string, bundle, once, turn, text, data []byte) (packet []byte, err error) {
	err = w.does("Initiate", draws32(once, turn), func(t *store.Tx) (e api.Errno) {
		packet, e = session.Initiate(t, peer, bundle, api.Key(once), api.Key(turn), text, data)
		return e
	})
	if err != nil {
		return nil, err
	}
	return packet, nil
}

func (w *words) Accept(peer string, packet, turn, data []byte) (text []byte, err error) {
	err = w.does("Accept", draws32(turn), func(t *store.Tx) (e api.Errno) {
		text, e = session.Accept(t, peer, packet, api.Key(turn), data)
		return e
	})
	if err != nil {
		return nil, err
	}
	return text, nil
}

func (w *words) Send(peer string, text, data []byte) (serial uint32, packet []byte, err error) {
	err = w.does("Send", 0, func(t *store.Tx) (e api.Errno) {
		serial, packet, e = session.Send(t, peer, text, data)
		return e
	})
	if err != nil {
		return 0, nil, err
	}
	return serial, packet, nil
}

func (w *words) Receive(peer string, packet, turn, data []byte) (text []byte, err error) {
	err = w.does("Receive", draws32(turn), func(t *store.Tx) (e api.Errno) {
		text, e = session.Receive(t, peer, packet, api.Key(turn), data)
		return e
	})
	if err != nil {
		return nil, err
	}
	return text, nil
}

func (w *words) Ack(peer string, serial uint32) error {
	return w.does("Ack", 0, func(t *store.Tx) api.Errno {
		if e := session.Name(peer); e != 0 {
			return e
		}
		return outbox.Ack(t, peer, serial)
	})
}

func (w *words) Forget(peer string) error {
	return w.does("Forget", 0, func(t *store.Tx) api.Errno { return session.Forget(t, peer) })
}

func (w *words) Close() error {
	if w.ended != 0 {
		return &api.Fault{Call: "Close", Err: w.ended}
	}
	w.ended = 220
	return nil
}

func (w *words) Identity() (api.Key, error) {
	var own api.Pair
	err := w.asks("Identity", func(t *store.Tx) (e api.Errno) {
		own, e = keyring.Identity(t)
		return e
	})
	return own.Pub, err
}

func (w *words) Replay(peer string) (mails []api.Mail, err error) {
	err = w.asks("Replay", func(t *store.Tx) (e api.Errno) {
		if _, e = session.Tell(t, peer); e == 0 {
			mails, e = outbox.List(t, peer)
		}
		return e
	})
	return mails, err
}

func (w *words) Peers() (names []string, err error) {
	err = w.asks("Peers", func(t *store.Tx) (e api.Errno) {
		names, e = session.Peers(t)
		return e
	})
	return names, err
}

func (w *words) Tell(peer string) (s api.Status, err error) {
	err = w.asks("Tell", func(t *store.Tx) (e api.Errno) {
		s, e = session.Tell(t, peer)
		return e
	})
	return s, err
}

func (w *words) Prekeys() (numbers []uint32, err error) {
	err = w.asks("Prekeys", func(t *store.Tx) (e api.Errno) {
		numbers, e = keyring.Numbers(t)
		return e
	})
	return numbers, err
}

func (w *words) Records() ([]api.Record, error) {
	if err := w.asks("Records", func(*store.Tx) api.Errno { return 0 }); err != nil {
		return nil, err
	}
	return w.list, nil
}

func (w *words) Pages() (total, used int, err error) {
	if err := w.asks("Pages", func(*store.Tx) api.Errno { return 0 }); err != nil {
		return 0, 0, err
	}
	_, s := laid(w.size, w.list)
	total, used = s.Pages()
	return total, used, nil
}
