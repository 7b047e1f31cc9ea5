package agree_test

import (
	"crypto/ecdh"
	"crypto/hkdf"
	"crypto/sha256"

	"lethe/api"
)

// The words: both calls made from the chapter's words, out of Go's own library alone.

// started: all that Start answers.
type started struct {
	secret api.Key
	sid    api.Sid
	bind   [64]byte
	hello  api.Hello
	e      api.Errno
}

// met: all that Meet answers.
type met struct {
	secret api.Key
	sid    api.Sid
	bind   [64]byte
	e      api.Errno
}

func wordsPrivate(k api.Key) *ecdh.PrivateKey {
	own, err := ecdh.X25519().NewPrivateKey(k[:])
	if err != nil {
		panic(err)
	}
	return own
}

func wordsShared(priv, pub api.Key) (api.Key, api.Errno) {
	other, err := ecdh.X25519().NewPublicKey(pub[:])
	if err != nil {
		panic(err)
	}
	secret, err := wordsPrivate(priv).ECDH(other)
	if err != nil {
		return api.Key{}, 70 // all zeros: the library refuses nothing else
	}
	return api.Key(secret), 0
}

// wordsPair: a right one; its private key is the draw, clamped.
func wordsPair(draw api.Key) api.Pair {
	draw[0] = draw[0] / 8 * 8
	draw[31] = draw[31]%64 + 64
	return api.Pair{Priv: draw, Pub: api.Key(wordsPrivate(draw).PublicKey().Bytes())}
}

// wordsDerived: P17.2.
func wordsDerived(x, y, z api.Key) (api.Key, api.Sid) {
	var key [128]byte
	for i := range 32 {
		key[i], key[32+i], key[64+i], key[96+i] = 0xff, x[i], y[i], z[i]
	}
	both, err := hkdf.Key(sha256.New, key[:], make([]byte, 32), "lethe first", 48)
	if err != nil {
		panic(err)
	}
	return api.Key(both[:32]), api.Sid(both[32:])
}

func wordsBind(first, other api.Key) (bind [64]byte) {
	for i := range 32 {
		bind[i], bind[32+i] = first[i], other[i]
	}
	return bind
}

// wordsStart: P17.3.
func wordsStart(own, once api.Pair, offer api.Offer) started {
	if offer.Prekey == 0 {
		return started{e: 170}
	}
	x, e := wordsShared(own.Priv, offer.Key)
	if e != 0 {
		return started{e: e}
	}
	y, e := wordsShared(once.Priv, offer.Identity)
	if e != 0 {
		return started{e: e}
	}
	z, e := wordsShared(once.Priv, offer.Key)
	if e != 0 {
		return started{e: e}
	}
	secret, sid := wordsDerived(x, y, z)
	hello := api.Hello{Identity: own.Pub, Once: once.Pub, Prekey: offer.Prekey}
	return started{secret: secret, sid: sid, bind: wordsBind(own.Pub, offer.Identity), hello: hello}
}

// wordsMeet: P17.4.
func wordsMeet(own, prekey api.Pair, hello api.Hello) met {
	if hello.Prekey == 0 {
		return met{e: 170}
	}
	x, e := wordsShared(prekey.Priv, hello.Identity)
	if e != 0 {
		return met{e: e}
	}
	y, e := wordsShared(own.Priv, hello.Once)
	if e != 0 {
		return met{e: e}
	}
	z, e := wordsShared(prekey.Priv, hello.Once)
	if e != 0 {
		return met{e: e}
	}
	secret, sid := wordsDerived(x, y, z)
	return met{secret: secret, sid: sid, bind: wordsBind(hello.Identity, own.Pub)}
}
