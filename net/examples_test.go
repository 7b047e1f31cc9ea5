package net_test

import (
	"testing"

	"lethe/api"
	"lethe/net"
)

// example: a row of the chapter's table, and what it answers, written out.
type example struct {
	call string
	done func(n *net.Net) (string, api.Errno)
	want string
	code api.Errno
}

func number(k int, e api.Errno) (string, api.Errno) {
	if e == 0 {
		return string(rune('0' + k)), 0
	}
	if k != 0 {
		return "a number beside an error", e
	}
	return "", e
}

func sends(from, to int, b string) func(*net.Net) (string, api.Errno) {
	return func(n *net.Net) (string, api.Errno) { return number(n.Send(from, to, []byte(b))) }
}

func copies(k int) func(*net.Net) (string, api.Errno) {
	return func(n *net.Net) (string, api.Errno) { return number(n.Copy(k)) }
}

func delivers(k int) func(*net.Net) (string, api.Errno) {
	return func(n *net.Net) (string, api.Errno) {
		f, e := n.Deliver(k)
		return toldFlight(f), e
	}
}

func drops(k int) func(*net.Net) (string, api.Errno) {
	return func(n *net.Net) (string, api.Errno) { return "", n.Drop(k) }
}

// P23.1, P23.2: the chapter's table, row by row.
func TestChapterExamples(t *testing.T) {
	for _, c := range [][2]int{{0, 3}, {5, 3}, {2, -1}, {2, 4097}} {
		if n, e := net.New(c[0], c[1]); n != nil || e != 2 {
			t.Errorf("New(%d, %d): error %d, net %v", c[0], c[1], e, n)
		}
	}
	n, e := net.New(2, 3)
	if n == nil || e != 0 {
		t.Fatalf("New(2, 3): error %d", e)
	}
	none := `{0, 0 to 0, ""}`
	for _, x := range []example{
		{`Send(1, 2, "ab")`, sends(1, 2, "ab"), "0", 0},
		{`Send(0, 2, "")`, sends(0, 2, ""), "", 240},
		{`Send(1, 3, "")`, sends(1, 3, ""), "", 240},
		{"Copy(0)", copies(0), "1", 0},
		{"Copy(7)", copies(7), "", 230},
		{`Send(2, 2, "")`, sends(2, 2, ""), "2", 0},
		{`Send(1, 2, "x")`, sends(1, 2, "x"), "", 231},
		{"Copy(0)", copies(0), "", 231},
		{`Send(3, 1, "x")`, sends(3, 1, "x"), "", 240},
		{"Deliver(1)", delivers(1), `{1, 1 to 2, "ab"}`, 0},
		{"Deliver(1)", delivers(1), none, 230},
		{"Drop(1)", drops(1), "", 230},
		{"Drop(0)", drops(0), "", 0},
	} {
		if got, e := x.done(n); got != x.want || e != x.code {
			t.Errorf("%s: %s, error %d, want %s, %d", x.call, got, e, x.want, x.code)
		}
	}
	list := n.Flights()
	if len(list) != 1 || toldFlight(list[0]) != `{2, 2 to 2, ""}` || n.Next() != 3 {
		t.Errorf("Flights, Next: %v; %d", toldFlights(list), n.Next())
	}
}
