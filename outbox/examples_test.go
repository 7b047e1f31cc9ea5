package outbox_test

import (
	"strings"
	"testing"
)

// The chapter's table, row by row, each row from the one above it.
func TestExamples(t *testing.T) {
	b := laidOut(t)
	b.areListed("nothing yet", "bob")
	b.isPut("the first", "bob", 3, "x", 2, 0)
	b.isPut("the second", "bob", 1, "y", 2, 0)
	b.isPut("the same serial", "bob", 3, "z", 2, 151)
	b.isPut("a third", "bob", 4, "z", 2, 200)
	b.isPut("others", "bo", 4, "z", 2, 0)
	b.isPut("others", "bobby", 4, "w", 2, 0)
	b.isPut("901 bytes", "bob", 9, strings.Repeat("a", 901), 9, 5)
	b.isPut("no name", "", 1, "x", 9, 212)
	b.isPut("17 bytes", strings.Repeat("n", 17), 1, "x", 9, 212)
	b.areListed("two", "bob", mail(1, "y"), mail(3, "x"))
	b.isAcked("there", "bob", 3, 0)
	b.isAcked("again", "bob", 3, 201)
	b.isAcked("another's", "bo", 3, 201)
	b.isDropped("one is left", "bob", 1)
	b.isDropped("none is left", "bob", 0)
	b.areListed("others", "bo", mail(4, "z"))
	b.areListed("others", "bobby", mail(4, "w"))
	for i, e := range all(nil, "bob", 1, []byte("x"), 9) {
		isCode(t, "P20.1: nil: "+callName(i), e, 3)
	}
	isCode(t, "Abort", b.x.Abort(), 0)
	for i, e := range all(b.x, "bob", 1, []byte("x"), 9) {
		isCode(t, "P20.1: behind Abort: "+callName(i), e, 121)
	}
}
