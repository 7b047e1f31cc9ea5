package parcel

import (
	"lethe/api"
	"lethe/sha"
	"lethe/wire"
)

const (
	mark     = 5                       // what a part begins with
	sumSize  = 8                       // bytes of a digest that a part carries
	headSize = 1 + 4 + 1 + 1 + sumSize // what stands ahead of a part's content
	room     = api.MaxText - headSize
)

// sum: of a whole text.
type sum [sumSize]byte

// sumOf: of all parts, one behind the other.
func sumOf(parts ...[]byte) sum {
	digest := sha.Sum(parts...)
	return sum(digest[:sumSize])
}

// piece: a part, field by field.
type piece struct {
	id      uint32
	many    int // parts of its parcel
	index   int
	sum     sum
	content []byte
}

// Split: a text as parts, each of at most MaxText bytes.
func Split(id uint32, text []byte) ([][]byte, api.Errno) {
	if len(text) > api.MaxParcel*room {
		return nil, api.ErrLong
	}
	many := max(1, (len(text)+room-1)/room) // an empty text has a part too: without one nothing would come
	whole := sumOf(text)
	parts := make([][]byte, many)
	for i := range parts {
		content := text[i*room : min((i+1)*room, len(text))]
		parts[i] = putTogether(piece{id, many, i, whole, content})
	}
	return parts, api.OK
}

// putTogether: a part's bytes.
func putTogether(p piece) []byte {
	w, _ := wire.NewWriter(api.MaxText)
	w.U8(mark)
	w.U32(p.id)
	w.U8(p.many)
	w.U8(p.index)
	w.Fixed(p.sum[:], p.content)
	b, _ := w.Out() // a piece that Split makes fits: there is no fault to tell
	return b
}

// takeApart: the opposite of putTogether. Bytes can fail to be a part for many reasons, which have one number, and so one way out.
func takeApart(b []byte) (piece, api.Errno) {
	var p piece
	var r *wire.Reader
	if len(b) < headSize || len(b) > api.MaxText {
		goto none
	}
	r = wire.NewReader(b)
	if r.U8() != mark {
		goto none
	}
	p.id = r.U32()
	p.many = r.U8()
	p.index = r.U8()
	if p.many < 1 || p.many > api.MaxParcel || p.index >= p.many {
		goto none
	}
	p.sum = sum(r.Fixed(sumSize))
	p.content = r.Fixed(r.Left())
	if !fits(p) {
		goto none
	}
	return p, api.OK
none:
	return piece{}, api.ErrPart
}

// fits: has the content as many bytes as its place asks for? That it has no more than room is known.
func fits(p piece) bool {
	switch {
	case p.index < p.many-1:
		return len(p.content) == room
	case p.many > 1:
		return len(p.content) > 0
	}
	return true
}
