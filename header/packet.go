package header

import (
	"lethe/api"
	"lethe/wire"
)

const (
	helloSize  = 2*keySize + numberSize
	leastBody  = api.TagSize
	mostBody   = api.TagSize + api.MaxText
	lengthSize = 2 // of the body's number of bytes
	mostPacket = startSize + helloSize + headerSize + lengthSize + mostBody
)

// Pack: a packet's bytes.
func Pack(p api.Packet) ([]byte, api.Errno) {
	if e := packetFault(p.Kind, p.Hello, len(p.Body)); e != api.OK {
		return nil, e
	}
	w, _ := wire.NewWriter(mostPacket)
	writeStart(w, p.Kind)
	if p.Kind == api.First {
		writeHello(w, p.Hello)
	}
	w.Fixed(Encode(p.Header))
	w.Run(p.Body)
	return w.Out()
}

// Unpack: back.
func Unpack(b []byte) (api.Packet, api.Errno) {
	r := wire.NewReader(b)
	p, length, e := readAhead(r)
	if e == api.OK {
		e = packetFault(p.Kind, p.Hello, length)
	}
	if e != api.OK {
		return api.Packet{}, e
	}
	p.Body = r.Fixed(length)
	r.End()
	if _, e := r.Fault(); e != api.OK {
		return api.Packet{}, e
	}
	return p, api.OK
}

// readAhead: what stands ahead of the body, and how many bytes the body is said to have. The body is not read as a run, because its number is held to its bounds behind the hello, and each bound has an error of its own.
func readAhead(r *wire.Reader) (p api.Packet, length int, e api.Errno) {
	p.Kind, e = readStart(r)
	if e != api.OK {
		return api.Packet{}, 0, e
	}
	if !isPacket(p.Kind) {
		return api.Packet{}, 0, api.ErrKind
	}
	if p.Kind == api.First {
		p.Hello = readHello(r)
	}
	p.Header = readHeader(r)
	length = r.U16()
	if _, e := r.Fault(); e != api.OK {
		return api.Packet{}, 0, e
	}
	return p, length, api.OK
}

// packetFault: the first thing that no right packet has.
func packetFault(kind int, h api.Hello, length int) api.Errno {
	switch {
	case !isPacket(kind):
		return api.ErrKind
	case !suits(kind, h):
		return api.ErrPacket
	case length < leastBody:
		return api.ErrShort
	case length > mostBody:
		return api.ErrLong
	}
	return api.OK
}

// isPacket: may a packet have this kind? (A bundle is none.)
func isPacket(kind int) bool { return kind == api.First || kind == api.Plain }

// suits: may a packet of this kind have that hello?
func suits(kind int, h api.Hello) bool {
	if kind == api.Plain {
		return h == (api.Hello{})
	}
	return h.Identity != (api.Key{}) && h.Prekey != 0
}

func writeHello(w *wire.Writer, h api.Hello) {
	w.Fixed(h.Identity[:], h.Once[:])
	w.U32(h.Prekey)
}

func readHello(r *wire.Reader) api.Hello {
	var h api.Hello
	h.Identity = readKey(r)
	h.Once = readKey(r)
	h.Prekey = r.U32()
	return h
}
