package state

import (
	"lethe/api"
	"lethe/wire"
)

// writeCore: what every state has.
func writeCore(w *wire.Writer, s api.State) {
	w.Fixed(s.Sid[:], s.Bind[:], s.Root[:], s.Pair.Priv[:], s.Pair.Pub[:], s.Peer[:])
	w.U32(s.Own)
	w.U32(s.Turns)
	w.U32(s.Serial)
}

func readCore(r *wire.Reader, s *api.State) {
	copy(s.Sid[:], r.Fixed(sidSize))
	copy(s.Bind[:], r.Fixed(bindSize))
	s.Root = readKey(r)
	s.Pair.Priv = readKey(r)
	s.Pair.Pub = readKey(r)
	s.Peer = readKey(r)
	s.Own = r.U32()
	s.Turns = r.U32()
	s.Serial = r.U32()
}

// writeSending: what a state has behind its first own turn's beginning.
func writeSending(w *wire.Writer, s api.State) {
	w.Fixed(s.SendKey[:])
	w.U32(s.Sent)
	w.U32(s.Prev)
}

func readSending(r *wire.Reader, s *api.State) {
	s.SendKey = readKey(r)
	s.Sent = r.U32()
	s.Prev = r.U32()
}

// writeReceiving: what a state has behind the beginning of the peer's first turn.
func writeReceiving(w *wire.Writer, s api.State) {
	w.Fixed(s.RecvKey[:])
	w.U32(s.Got)
}

func readReceiving(r *wire.Reader, s *api.State) {
	s.RecvKey = readKey(r)
	s.Got = r.U32()
}

// helloMark: the byte that tells whether a hello follows.
func helloMark(h api.Hello) int {
	if h == (api.Hello{}) {
		return noHello
	}
	return hasHello
}

// writeHello: without its identity, which stands in the state's bind.
func writeHello(w *wire.Writer, h api.Hello) {
	w.Fixed(h.Once[:])
	w.U32(h.Prekey)
}

func readHello(r *wire.Reader, s *api.State) {
	s.Hello.Identity = firstWriter(*s)
	s.Hello.Once = readKey(r)
	s.Hello.Prekey = r.U32()
}

// readKey: a key's bytes are copied, not converted, because a reader with a fault has none, and what is read then is to be zero.
func readKey(r *wire.Reader) api.Key {
	var k api.Key
	copy(k[:], r.Fixed(keySize))
	return k
}
