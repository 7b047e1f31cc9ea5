package wire

import (
	"bytes"
	"math"

	"lethe/api"
)

// Writer: fields, one behind the other.
type Writer struct {
	most    int
	written []byte
	fault   api.Errno // the first one
}

// NewWriter: for at most so many bytes.
func NewWriter(most int) (*Writer, api.Errno) {
	if most < 0 || most > api.MaxScript {
		return nil, api.ErrPlace
	}
	return &Writer{most: most}, api.OK
}

// U8: a byte.
func (w *Writer) U8(n int) {
	if n < 0 || n > math.MaxUint8 {
		w.note(api.ErrPlace)
		return
	}
	w.Fixed([]byte{byte(n)})
}

// U16: two bytes, the highest first.
func (w *Writer) U16(n int) {
	if n < 0 || n > math.MaxUint16 {
		w.note(api.ErrPlace)
		return
	}
	w.Fixed([]byte{byte(n >> 8), byte(n)})
}

// U32: four bytes, the highest first.
func (w *Writer) U32(n uint32) {
	w.Fixed([]byte{byte(n >> 24), byte(n >> 16), byte(n >> 8), byte(n)})
}

// Fixed: the bytes as they are.
func (w *Writer) Fixed(parts ...[]byte) {
	if w.fault != api.OK {
		return
	}
	// What is left is counted down, because the parts' lengths together might wrap round. And all parts are counted ahead of the first one's writing: a field is written whole, or not at all.
	room := w.most - len(w.written)
	for _, part := range parts {
		if len(part) > room {
			w.note(api.ErrLong)
			return
		}
		room -= len(part)
	}
	for _, part := range parts {
		w.written = append(w.written, part...)
	}
}

// Run: their number (U16), then the bytes.
func (w *Writer) Run(b []byte) {
	n := len(b)
	if n > api.MaxBytes {
		w.note(api.ErrSize)
		return
	}
	w.Fixed([]byte{byte(n >> 8), byte(n)}, b)
}

// Out: what was written, or the first fault.
func (w *Writer) Out() ([]byte, api.Errno) {
	if w.fault != api.OK {
		return nil, w.fault
	}
	return bytes.Clone(w.written), api.OK
}

// note: the fault, unless there is an earlier one.
func (w *Writer) note(e api.Errno) {
	if w.fault == api.OK {
		w.fault = e
	}
}
