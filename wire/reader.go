package wire

import (
	"bytes"

	"lethe/api"
)

// Reader: of fields.
type Reader struct {
	all   []byte
	at    int       // where it stands
	fault api.Errno // the first one; it stands at at, because behind a fault the reader doesn't move
}

// NewReader: from the first byte on.
func NewReader(b []byte) *Reader { return &Reader{all: bytes.Clone(b)} }

// U8: a byte.
func (r *Reader) U8() int { return int(number(r.Fixed(1))) }

// U16: two bytes.
func (r *Reader) U16() int { return int(number(r.Fixed(2))) }

// U32: four bytes.
func (r *Reader) U32() uint32 { return number(r.Fixed(4)) }

// Fixed: so many bytes.
func (r *Reader) Fixed(n int) []byte {
	var e api.Errno
	if r.fault != api.OK {
		return nil
	}
	if n < 0 {
		e = api.ErrPlace
		goto faulty
	}
	if n > r.Left() {
		e = api.ErrShort
		goto faulty
	}
	r.at += n
	return bytes.Clone(r.all[r.at-n : r.at])
faulty:
	r.fault = e
	return nil
}

// Run: a number (U16) of at most so many, then as many bytes.
func (r *Reader) Run(most int) []byte {
	var e api.Errno
	var n int
	if r.fault != api.OK {
		return nil
	}
	if r.Left() < 2 {
		e = api.ErrShort
		goto faulty
	}
	n = int(number(r.all[r.at : r.at+2]))
	if n > most {
		e = api.ErrSize
		goto faulty
	}
	if n > r.Left()-2 {
		e = api.ErrShort
		goto faulty
	}
	r.at += 2 + n
	return bytes.Clone(r.all[r.at-n : r.at])
faulty:
	r.fault = e
	return nil
}

// Left: how many bytes are left.
func (r *Reader) Left() int { return len(r.all) - r.at }

// End: nothing may be left.
func (r *Reader) End() {
	if r.fault == api.OK && r.Left() > 0 {
		goto faulty
	}
	return
faulty:
	r.fault = api.ErrTail
}

// Fault: the first one: its byte, and why.
func (r *Reader) Fault() (at int, e api.Errno) {
	if r.fault == api.OK {
		return 0, api.OK
	}
	return r.at, r.fault
}

// number: of bytes with the highest first; of none (a field with a fault) 0.
func number(b []byte) uint32 {
	var n uint32
	for _, x := range b {
		n = n<<8 | uint32(x)
	}
	return n
}
