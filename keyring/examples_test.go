package keyring_test

import (
	"encoding/hex"
	"slices"
	"testing"

	"lethe/api"
	"lethe/keyring"
)

// The chapter's table, row by row, each row from the one above it.

func TestExamplesOfRecords(t *testing.T) {
	no := someLimits()
	no.Peers = 0
	if list, e := keyring.Records(no, steps(0, 31)); e != 2 || len(list) != 0 {
		t.Errorf("P19.2: Peers 0: %s, %d", told(list), e)
	}
	if list, e := keyring.Records(someLimits(), steps(0, 31)); e != 71 || len(list) != 0 {
		t.Errorf("P19.2: 31 bytes: %s, %d", told(list), e)
	}
}

func TestExamples(t *testing.T) {
	b := created(t, someLimits())
	pub, _ := hex.DecodeString("8f40c5adb68f25624ae5b214ea767a6ec94d829d3d7b5e1ad1ba6f3e2138285f")
	priv := append(steps(0, 31), 0x5f)
	if p, e := b.identity("example"); e != 0 || p != (api.Pair{Priv: api.Key(priv), Pub: api.Key(pub)}) {
		t.Errorf("P19.4: Identity: %x, %d", p, e)
	}
	b.areNumbers("at first")
	b.isPublished("no draw", nil, 0)
	b.isPublished("31 bytes", [][]byte{steps(1, 31)}, 71)
	b.isPublished("32 bytes, none", [][]byte{steps(1, 32), nil}, 71)
	b.isPublished("two draws", draws(1, 2), 0, 1, 2)
	b.isPublished("four are more than 3", draws(3, 2), 191)
	found, e := b.find("example", 1)
	isCode(t, "Find", e, 0)
	used, e := b.use("example", 1)
	isCode(t, "Use", e, 0)
	if found != wordsPair(draw(1)) || used != found {
		t.Errorf("P19.6: Find and Use answer %x and %x", found, used)
	}
	_, e = b.use("again", 1)
	isCode(t, "Use again", e, 190)
	_, e = b.find("unknown", 9)
	isCode(t, "Find of 9", e, 190)
	b.isPublished("two draws again", draws(3, 2), 0, 3, 4)
	if p, e := b.use("example", 2); e != 0 || p != wordsPair(draw(2)) {
		t.Errorf("P19.6: Use(2): %x, %d", p, e)
	}
	b.isPublished("five are more than 4", draws(5, 1), 130)
	b.areNumbers("at last", 3, 4)
	isCode(t, "Abort", b.x.Abort(), 0)
	for i, e := range all(b.x, 3, steps(1, 32)) {
		isCode(t, "P19.1: behind Abort: "+callNames(i), e, 121)
	}
	for i, e := range all(nil, 3, steps(1, 32)) {
		isCode(t, "P19.1: nil: "+callNames(i), e, 3)
	}
}

func (b *bench) areNumbers(what string, want ...uint32) {
	b.t.Helper()
	if got, e := b.numbers(what); e != 0 || !slices.Equal(got, want) {
		b.t.Errorf("P19.7: %s: %d, %d; want %d", what, got, e, want)
	}
}

// isPublished: the answer's code, and the offers' numbers.
func (b *bench) isPublished(what string, draws [][]byte, code api.Errno, numbers ...uint32) {
	b.t.Helper()
	offers, e := b.publish(what, draws...)
	isCode(b.t, "P19.5: "+what, e, code)
	var got []uint32
	for _, o := range offers {
		got = append(got, o.Prekey)
	}
	if !slices.Equal(got, numbers) {
		b.t.Errorf("P19.5: %s: numbers %d, want %d", what, got, numbers)
	}
}
