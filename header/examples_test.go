package header_test

import (
	"bytes"
	"testing"

	"lethe/api"
	"lethe/header"
)

// P14.2: the chapter's header.
func TestHeaderExample(t *testing.T) {
	want := joined(zeros(16), []byte{0, 0, 0, 1}, zeros(32), []byte{0, 0, 0, 2}, []byte{0, 0, 1, 2})
	if b := header.Encode(api.Header{Turn: 1, Prev: 2, N: 258}); !bytes.Equal(b, want) {
		t.Errorf("P14.2: Encode: %x, want %x", b, want)
	}
}

// P14.3, P14.4, P14.6: the chapter's table, line by line.
func TestChapterExamples(t *testing.T) {
	head, body := steps(1, 60), steps(0x40, 32)
	isRefused(t, "no bytes", nil, 10)
	isRefused(t, "01", []byte{1}, 10)
	isRefused(t, "02 02", []byte{2, 2}, 140)
	isRefused(t, "01 00", []byte{1, 0}, 103)
	isRefused(t, "01 03", []byte{1, 3}, 103)
	isRefused(t, "the body's number is missing", joined([]byte{1, 2}, head), 10)
	isRefused(t, "31 is fewer than a tag has", joined([]byte{1, 2}, head, []byte{0, 0x1f}), 10)
	isRefused(t, "545 is more than 544", joined([]byte{1, 2}, head, []byte{2, 0x21}), 5)
	right := joined([]byte{1, 2}, head, []byte{0, 0x20}, body)
	isUnpacked(t, "a Plain packet", right, api.Packet{
		Kind: 2,
		Header: api.Header{
			Sid: api.Sid(steps(1, 16)), Turn: 0x11121314, Key: api.Key(steps(21, 32)), Prev: 0x35363738, N: 0x393a3b3c,
		},
		Body: body,
	}, 0)
	isRefused(t, "the same and one byte more", joined(right, []byte{0}), 11)
	noIdentity := joined([]byte{1, 1}, zeros(64), []byte{0, 0, 0, 1}, head)
	isRefused(t, "the number is missing, and the Identity is zero", noIdentity, 10)
	isRefused(t, "the Identity is zero", joined(noIdentity, []byte{0, 0}), 141)
	isPacked(t, "Kind 3", api.Packet{Kind: 3}, nil, 103)
	isPacked(t, "Plain with Prekey 1", api.Packet{Kind: 2, Hello: api.Hello{Prekey: 1}, Body: body}, nil, 141)
	isOffer(t, "68 zero bytes", joined([]byte{1, 3}, zeros(68)), api.Offer{}, 170)
	isOffer(t, "01 02 and 68 bytes", joined([]byte{1, 2}, steps(1, 68)), api.Offer{}, 103)
}

// The bundle and the packet P0 with which the document's examples of the whole begin.
const (
	whoseBundle = "8d20f8c7bbfb9af3da4ef532ed44efc68ce642bc5d0c5cb1d7b91b96c74edf02"
	prekey      = "ae8b046f96cb5841c86fd8b63d3d6265b209dfa0df66bdaa42b7a9fc59779523"
	bundle      = "0103" + whoseBundle + "00000001" + prekey

	whosePacket = "422c8e7a6227d7bca1350b3e2bb7279f7897b87bb6854b783c60e80311ae3079"
	once        = "0f524bef7e12258fd9eefcd9e468b21e543d90cc4a54b347f48cc5969febf432"
	sid         = "bf3412d4e13c430e952c48438d6fa11d"
	turnKey     = "87558542bbbfff0f93902ffa8434b44235daa830ccffb1a6b5300b3cda701d05"
	sealed      = "1a3082d11b525935c463d82725c20b93a1cda48a74d126704924eaf002a0df674491"
	packet      = "0101" + whosePacket + once + "00000001" + sid + "00000000" + turnKey + "0000000000000000" + "0022" + sealed
)

// P14.3 to P14.6: what the document's examples of the whole hand from one to the other.
func TestExamplesOfTheWhole(t *testing.T) {
	o := api.Offer{Identity: keyOf(t, whoseBundle), Prekey: 1, Key: keyOf(t, prekey)}
	if b := header.Offer(o); !bytes.Equal(b, unhex(t, bundle)) {
		t.Errorf("P14.5: Offer: %x, want %s", b, bundle)
	}
	isOffer(t, "the bundle", unhex(t, bundle), o, 0)
	p := api.Packet{
		Kind:   api.First,
		Hello:  api.Hello{Identity: keyOf(t, whosePacket), Once: keyOf(t, once), Prekey: 1},
		Header: api.Header{Sid: api.Sid(unhex(t, sid)), Key: keyOf(t, turnKey)},
		Body:   unhex(t, sealed),
	}
	isPacked(t, "P0", p, unhex(t, packet), 0)
	isUnpacked(t, "P0", unhex(t, packet), p, 0)
}
