package safety_test

import (
	"strings"
	"testing"

	"lethe/api"
	"lethe/safety"
)

// side: one of the two people.
type side struct {
	name string
	k    api.Key
}

// someSides: with the same name under two keys, and the same key under two names.
func someSides() []side {
	var list []side
	keys := someKeys()
	for i, name := range someNames() {
		list = append(list, side{name, keys[i%len(keys)]})
	}
	return append(list, side{"alice", of32(1)}, side{"alice", of32(2)}, side{"bob", of32(1)}, side{"bob", of32(2)})
}

// isWhole: P25.3's and P25.7's form: 71 bytes, twelve groups of five digits, a blank between each two, one half and then the other, the smaller one first.
func isWhole(t *testing.T, got, first, second string) {
	t.Helper()
	if len(got) != 71 {
		t.Fatalf("P25.3: %q has %d bytes", got, len(got))
	}
	for i := range 71 {
		if blank := i%6 == 5; blank != (got[i] == 0x20) {
			t.Errorf("P25.3: byte %d of %q", i, got)
		}
	}
	halves := min(first, second) + max(first, second)
	for group := range 12 {
		if is, want := got[6*group:6*group+5], halves[5*group:5*group+5]; is != want || !onlyDigits(is, 5) {
			t.Errorf("P25.3, P25.7: group %d: %q, want %q", group, is, want)
		}
	}
}

// P25.3, P25.6, P25.7: each two sides, with Half's answers. The halves are sorted, not the names and not the keys: each order of the ones is met with each order of the others.
func TestNumberOfTwoSides(t *testing.T) {
	met := map[[3]bool]int{}
	for _, a := range someSides() {
		for _, b := range someSides() {
			got, e := safety.Number(a.name, a.k, b.name, b.k)
			if e != api.OK {
				t.Fatalf("P25.3: of %q and %q: error %d", a.name, b.name, e)
			}
			first, _ := safety.Half(a.name, a.k)
			second, _ := safety.Half(b.name, b.k)
			isWhole(t, got, first, second)
			isNumber(t, "P25.6: the other way round", b.name, b.k, a.name, a.k, got, api.OK)
			met[[3]bool{a.name < b.name, string(a.k[:]) < string(b.k[:]), first < second}]++
			if t.Failed() {
				return
			}
		}
	}
	if len(met) != 8 {
		t.Errorf("not all orders are met: %v", met)
	}
}

// P25.3: by the chapter's words alone.
func TestNumberByItsWords(t *testing.T) {
	sides := someSides()
	for i, a := range sides {
		b := sides[(i*7+3)%len(sides)]
		want, e := wordsNumber(a.name, a.k, b.name, b.k)
		isNumber(t, "P25.3", a.name, a.k, b.name, b.k, want, e)
		isNumber(t, "P25.6", b.name, b.k, a.name, a.k, want, e)
	}
}

// P25.3, P25.7: the same name and key on both sides: the half twice.
func TestNumberOfOneself(t *testing.T) {
	for _, a := range someSides() {
		half, _ := safety.Half(a.name, a.k)
		isNumber(t, "P25.3: of oneself", a.name, a.k, a.name, a.k, apart(half+half), api.OK)
	}
	isNumber(t, "P25.3: of oneself", "bob", of32(2), "bob", of32(2), "53424 09505 03946 38034 21716 11951 53424 09505 03946 38034 21716 11951", api.OK)
}

// P25.1, P25.3: the error of name a, then that of b, in all pairs of names; beside it there is no number.
func TestNumberRefused(t *testing.T) {
	ka, kb := of32(1), of32(2)
	for _, a := range manyNames() {
		for _, b := range manyNames() {
			want, e := wordsNumber(a, ka, b, kb)
			isNumber(t, "P25.1, P25.3", a, ka, b, kb, want, e)
		}
	}
	long := strings.Repeat("n", 17)
	isNumber(t, "a's error first", "", ka, long, kb, "", empty)
	isNumber(t, "a's error first", long, ka, "", kb, "", tooLong)
	isNumber(t, "b's error", long[1:], ka, "", kb, "", empty)
	isNumber(t, "b's error", "a", ka, long, kb, "", tooLong)
}

// manyNames: none, of one byte, of 16, of 17, of many; of any bytes.
func manyNames() []string {
	names := []string{""}
	for _, n := range []int{1, 2, 16, 17, 18, 256, 257, 1 << 16, 1<<16 + 16} {
		for _, b := range []string{"n", "\x00", "\xff", "\xc3"} {
			names = append(names, strings.Repeat(b, n))
		}
	}
	return names
}

// P25.1: an answer hangs on what is handed in alone: asked again, behind other calls and by many at a time, it is the same.
func TestAskedAgain(t *testing.T) {
	sides := someSides()
	done := make(chan int)
	for i := range 8 {
		go func() {
			defer func() { done <- i }()
			for j, a := range sides {
				b := sides[(i*5+j)%len(sides)]
				text, _ := wordsNumber(a.name, a.k, b.name, b.k)
				isAlike(t, "many at a time", text, a.name, a.k, b.name, b.k)
				isHalf(t, "a refusal between", "", a.k, "", empty)
				isRead(t, "a refusal between", text[1:], "", badDigits)
				isAlike(t, "asked again", text, a.name, a.k, b.name, b.k)
			}
		}()
	}
	for range 8 {
		<-done
	}
}
