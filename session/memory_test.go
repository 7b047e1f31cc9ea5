package session_test

import (
	"bytes"
	"testing"

	"lethe/session"
)

// P21.1: parts that lie in one array, one in another's spare room: nothing is written behind any of them, and all are taken as they are.
func TestPartsOfOneArray(t *testing.T) {
	a, b := client(t, 1, wide()), client(t, 2, wide())
	bundle := b.prekey(1)
	once, turn := a.draw(), a.draw()
	array := joined(bundle, []byte("the text"), []byte("the data"), bytes.Repeat([]byte{0x5a}, 1000))
	was := bytes.Clone(array)
	p, e := session.Initiate(a.x, "bob", array[:70], once, turn, array[70:78], array[78:86])
	isCode(t, "P21.4: one array", e, 0)
	_, q, e := session.Send(a.x, "bob", array[70:78], array[78:86])
	isCode(t, "P21.6: one array", e, 0)
	if !bytes.Equal(array, was) {
		t.Errorf("P21.1: the array is another one")
	}
	clear(array)
	a.list, _, _ = wordsInitiate(a.list, "bob", bundle, once, turn, []byte("the text"), []byte("the data"))
	a.list, _, _, _ = wordsSend(a.list, "bob", []byte("the text"), []byte("the data"))
	a.isSeen("one array")
	array = joined(p, []byte("the data"), q, bytes.Repeat([]byte{0x5a}, 1000))
	was = bytes.Clone(array)
	mid, end := len(p)+8, len(p)+8+len(q)
	turn = b.draw()
	text, e := session.Accept(b.x, "alice", array[:len(p)], turn, array[len(p):mid])
	if string(text) != "the text" || e != 0 {
		t.Errorf("P21.5: one array: %q, %d", text, e)
	}
	next, e := session.Receive(b.x, "alice", array[mid:end], turn, array[len(p):mid])
	if string(next) != "the text" || e != 0 {
		t.Errorf("P21.7: one array: %q, %d", next, e)
	}
	if !bytes.Equal(array, was) {
		t.Errorf("P21.1: the array is another one")
	}
	b.list, _, _ = wordsAccept(b.list, "alice", p, turn, []byte("the data"))
	b.list, _, _ = wordsReceive(b.list, "alice", q, turn, []byte("the data"))
	clear(array)
	b.isSeen("one array")
	spoil(text)
	if string(next) != "the text" {
		t.Errorf("P21.1: two texts share memory")
	}
}

// P21.1: what was handed out is not changed by what is done later.
func TestAnswersStay(t *testing.T) {
	a, b := client(t, 1, wide()), client(t, 2, wide())
	p, e := session.Initiate(a.x, "bob", b.prekey(1), a.draw(), a.draw(), []byte("one"), nil)
	isCode(t, "Initiate", e, 0)
	_, q, e := session.Send(a.x, "bob", []byte("two"), nil)
	isCode(t, "Send", e, 0)
	firstP, firstQ := bytes.Clone(p), bytes.Clone(q)
	names, e := session.Peers(a.x)
	isCode(t, "Peers", e, 0)
	text, e := session.Accept(b.x, "alice", p, b.draw(), nil)
	isCode(t, "Accept", e, 0)
	next, e := session.Receive(b.x, "alice", q, b.draw(), nil)
	isCode(t, "Receive", e, 0)
	told, e := session.Tell(a.x, "bob")
	isCode(t, "Tell", e, 0)
	isCode(t, "Forget", session.Forget(a.x, "bob"), 0)
	isCode(t, "Forget", session.Forget(b.x, "alice"), 0)
	for _, x := range []*bench{a, b} {
		if err := x.x.Commit(); err != nil {
			t.Fatal(err)
		}
	}
	if !bytes.Equal(p, firstP) || !bytes.Equal(q, firstQ) || string(text) != "one" || string(next) != "two" || len(names) != 1 || names[0] != "bob" || told.Peer != "bob" || told.Sent != 2 {
		t.Errorf("P21.1: an answer has changed: %q, %q, %q, %+v", text, next, names, told)
	}
}
