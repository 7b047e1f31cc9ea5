package net_test

import (
	"bytes"
	"fmt"
	"slices"
	"testing"

	"lethe/api"
)

// P23.1: bytes that are handed to Send stay as they were, spare room too, whatever it answers; and what is written into them then is not seen, nor are they written to later.
func TestSentBytesStay(t *testing.T) {
	for _, c := range []struct {
		from, most int
		want       api.Errno
	}{{1, 3, 0}, {0, 3, noNode}, {1, 0, full}} {
		for _, length := range []int{0, 1, 3, 8} {
			b := newBench(t, 2, c.most)
			array := []byte("0123456789abcdef")
			before := slices.Clone(array)
			text := string(array[4 : 4+length])
			k, e := b.n.Send(c.from, 2, array[4:4+length])
			want, code := b.w.send(c.from, 2, text)
			b.isNumber("of an array", k, e, want, code)
			b.isCode("of an array", code, c.want)
			if !bytes.Equal(array, before) {
				t.Errorf("P23.1: error %d: the bytes, or what lies beside them, have become %q", e, array)
			}
			spoil(array)
			written := slices.Clone(array)
			b.isSame("the writing")
			b.copy("behind the writing", 0)
			b.deliver("behind the writing", 0)
			b.drop("behind the writing", 1)
			if !bytes.Equal(array, written) {
				t.Errorf("P23.1: error %d: the bytes were written to later", e)
			}
		}
	}
}

// P23.1: one array sent several times, changed in between: each packet has the bytes that it was sent with.
func TestOneArrayManyPackets(t *testing.T) {
	b := newBench(t, 2, 20)
	array := make([]byte, 4, 40)
	for k := range 20 {
		for i := range whole(array) {
			whole(array)[i] = byte(k + i)
		}
		part := array[:k%5]
		got, e := b.n.Send(1, 2, part)
		want, code := b.w.send(1, 2, string(part))
		b.isNumber("the same array", got, e, want, code)
	}
	spoil(array)
	b.isSame("the writing")
	for k := range 20 {
		b.deliver("the same array", k)
	}
}

// P23.1: what Deliver answers is new memory, spare room too: neither the net, nor a copy, nor another answer sees what is written there.
func TestDeliveredBytesAreNew(t *testing.T) {
	for _, length := range []int{0, 1, 5, 8, 31, 33, 1000} {
		text := string(bytes.Repeat([]byte("z"), length))
		b := filled(t, 9, text, text)
		b.copy("ahead", 0)
		b.copy("ahead", 2)
		list := b.n.Flights()
		for _, k := range []int{2, 0, 3} {
			f, e := b.n.Deliver(k)
			if e != 0 || string(f.Bytes) != text || b.w.leave(k, delivered) != 0 {
				t.Fatalf("P23.2: Deliver(%d): %s, error %d", k, toldFlight(f), e)
			}
			spoil(f.Bytes)
			_ = append(f.Bytes, 1, 2, 3)
			b.isSame("the writing")
			for _, f := range list {
				if string(f.Bytes) != text {
					t.Errorf("P23.1: %d bytes: packet %d's, which were answered ahead, have changed", length, f.Number)
				}
			}
		}
		b.deliver("the last one", 1)
	}
}

// P23.1: what Flights answers is new memory, the list and each packet's bytes, spare room too.
func TestFlightsAreNew(t *testing.T) {
	for _, count := range []int{0, 1, 2, 5, 64} {
		b := newBench(t, 3, 100)
		for k := range count {
			if k%4 == 3 {
				b.copy("ahead", k-1)
			} else {
				b.send("ahead", 1, 2, fmt.Sprint("text ", k))
			}
		}
		kept, spoilt := b.n.Flights(), b.n.Flights()
		for i := range spoilt {
			spoil(spoilt[i].Bytes)
			_ = append(spoilt[i].Bytes, 7, 7, 7)
		}
		for i := range whole(spoilt) {
			whole(spoilt)[i] = api.Flight{Number: 99, From: 99, To: 99, Bytes: []byte("other")}
		}
		_ = append(spoilt, api.Flight{Number: 98})
		if got := toldFlights(kept); !slices.Equal(got, b.w.flights()) {
			t.Errorf("P23.1: %d packets: a list sees what is written into another: %q", count, got)
		}
		b.isSame("the writing")
		for k := range count {
			b.deliver("behind the writing", k)
		}
	}
}

// P23.1: within one answer each packet's bytes are its own: what is written into one's, or appended to it, the others don't see, copies of the same packet neither.
func TestBytesOfTheirOwn(t *testing.T) {
	b := filled(t, 9, "same", "same", "", "other")
	b.copy("ahead", 0)
	b.copy("ahead", 4)
	want := b.w.flights()
	for i := range want {
		list := b.n.Flights()
		spoil(list[i].Bytes)
		_ = append(list[i].Bytes, "appended"...)
		for k, got := range toldFlights(list) {
			if k != i && got != want[k] {
				t.Errorf("P23.1: what is written into packet %d's bytes stands in packet %d: %s", i, k, got)
			}
		}
	}
	b.isSame("the writing")
}

// P23.1: what was answered stays as it was, whatever becomes of the net.
func TestAnswersStay(t *testing.T) {
	b := filled(t, 4, "a", "bb", "ccc")
	b.copy("ahead", 1)
	list, want := b.n.Flights(), b.w.flights()
	f, _ := b.n.Deliver(1)
	b.w.leave(1, delivered)
	for k := range 30 {
		b.send("goes on", 3, 1, fmt.Sprint("new ", k))
		b.drop("goes on", k-3)
		b.deliver("goes on", k)
		b.copy("goes on", k+1)
	}
	if got := toldFlights(list); !slices.Equal(got, want) {
		t.Errorf("P23.1: the list has become %q, want %q", got, want)
	}
	if toldFlight(f) != told(1, 1, 2, "bb") {
		t.Errorf("P23.1: what was delivered has become %s", toldFlight(f))
	}
}

// P23.1: bytes that were answered may be sent again, and are copied like any others.
func TestAnsweredBytesSentAgain(t *testing.T) {
	b := filled(t, 9, "there and back")
	list := b.n.Flights()
	f, _ := b.n.Deliver(0)
	b.w.leave(0, delivered)
	for _, x := range [][]byte{f.Bytes, list[0].Bytes, f.Bytes[:5], f.Bytes[6:]} {
		text := string(x)
		k, e := b.n.Send(2, 1, x)
		want, code := b.w.send(2, 1, text)
		b.isNumber("sent again", k, e, want, code)
	}
	spoil(f.Bytes)
	spoil(list[0].Bytes)
	b.isSame("the writing")
	for k := 1; k <= 4; k++ {
		b.deliver("sent again", k)
	}
}
