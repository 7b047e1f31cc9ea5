package world_test

import (
	"bytes"
	"crypto/sha256"
	"encoding/hex"
	"fmt"
	"slices"

	"lethe/api"
)

func sameFlight(a, b api.Flight) bool {
	return a.Number == b.Number && a.From == b.From && a.To == b.To && bytes.Equal(a.Bytes, b.Bytes)
}

func sameRecord(a, b api.Record) bool {
	return a.Table == b.Table && bytes.Equal(a.Key, b.Key) && bytes.Equal(a.Value, b.Value)
}

// isSame: all that a world can be asked for is what the words say. What it hands out is written over then, spare room too: nobody must see it.
func (b *bench) isSame(what string) {
	b.t.Helper()
	views := b.w.Views()
	if want := b.r.views(); !slices.Equal(views, want) {
		b.t.Errorf("P24.1: behind %s: Views %+v, want %+v", what, views, want)
	}
	for i := range whole(views) {
		whole(views)[i] = api.View{Node: -1, Up: true, Created: true, Peers: 99, Prekeys: 99, Unanswered: 99, Pages: 99}
	}
	flights := b.w.Flights()
	if want := b.r.flights(); !slices.EqualFunc(flights, want, sameFlight) {
		b.t.Errorf("P24.1: behind %s: %d Flights, want %d; or others", what, len(flights), len(want))
	}
	for i := range whole(flights) {
		spoil(whole(flights)[i].Bytes)
		whole(flights)[i] = api.Flight{Number: -1}
	}
	for k := range len(b.r.spots) + 2 {
		b.isSameNode(what, k)
	}
	if b.t.Failed() {
		b.t.FailNow()
	}
}

// isSameNode: k may be no node's number.
func (b *bench) isSameNode(what string, k int) {
	b.t.Helper()
	image, e := b.w.Image(k)
	if want, code := b.r.image(k); e != code || !bytes.Equal(image, want) {
		b.t.Errorf("P24.1, P2: behind %s: Image(%d): error %d, %d bytes, want %d, %d; or others", what, k, e, len(image), code, len(want))
	}
	spoil(image)
	list, e := b.w.Records(k)
	if want, code := b.r.records(k); e != code || !sameRecords(list, want) {
		b.t.Errorf("P24.1, P2: behind %s: Records(%d): error %d, %d of them, want %d, %d; or others", what, k, e, len(list), code, len(want))
	}
	for i := range list {
		spoil(list[i].Key)
		spoil(list[i].Value)
	}
	for i := range whole(list) {
		whole(list)[i] = api.Record{Table: -1}
	}
}

// seen: a digest of all that a world can be asked for.
func (b *bench) seen() string {
	h := sha256.New()
	fmt.Fprintln(h, b.w.Views())
	for _, f := range b.w.Flights() {
		fmt.Fprintln(h, f.Number, f.From, f.To, len(f.Bytes))
		h.Write(f.Bytes)
	}
	for k := range len(b.r.spots) + 2 {
		image, e := b.w.Image(k)
		fmt.Fprintln(h, len(image), e)
		h.Write(image)
		list, e := b.w.Records(k)
		fmt.Fprintln(h, len(list), e)
		for _, r := range list {
			fmt.Fprintf(h, "%d %x %x\n", r.Table, r.Key, r.Value)
		}
	}
	return hex.EncodeToString(h.Sum(nil))
}

// digest: of a node's image, as a transcript tells it.
func (b *bench) digest(k int) string {
	b.t.Helper()
	image, e := b.w.Image(k)
	if e != 0 {
		b.t.Errorf("Image(%d): error %d", k, e)
	}
	d := sha256.Sum256(image)
	return hex.EncodeToString(d[:])
}

func sameRecords(a, b []api.Record) bool { return slices.EqualFunc(a, b, sameRecord) }
