package header

import (
	"lethe/api"
	"lethe/wire"
)

const offerSize = startSize + keySize + numberSize + keySize

// Offer: a bundle's bytes.
func Offer(o api.Offer) []byte {
	w, _ := wire.NewWriter(offerSize)
	writeStart(w, api.Bundle)
	w.Fixed(o.Identity[:])
	w.U32(o.Prekey)
	w.Fixed(o.Key[:])
	b, _ := w.Out() // the writer has room for just these fields: there is no fault to tell
	return b
}

// ReadOffer: back.
func ReadOffer(b []byte) (api.Offer, api.Errno) {
	r := wire.NewReader(b)
	kind, e := readStart(r)
	if e != api.OK {
		return api.Offer{}, e
	}
	if kind != api.Bundle {
		return api.Offer{}, api.ErrKind
	}
	var o api.Offer
	o.Identity = readKey(r)
	o.Prekey = r.U32()
	o.Key = readKey(r)
	r.End()
	if _, e := r.Fault(); e != api.OK {
		return api.Offer{}, e
	}
	if !isRight(o) {
		return api.Offer{}, api.ErrBundle
	}
	return o, api.OK
}

// isRight: does it name an identity, a prekey's number and its key?
func isRight(o api.Offer) bool {
	return o.Identity != (api.Key{}) && o.Key != (api.Key{}) && o.Prekey != 0
}
