package safety_test

import (
	"math/rand"
	"strings"
	"testing"

	"lethe/api"
	"lethe/safety"
)

// P25.5, P25.6: Match is true of what Number answers, of each two sides, either way round.
func TestMatchOfTheNumber(t *testing.T) {
	for _, a := range someSides() {
		for i, b := range someSides() {
			if i%5 > 0 {
				continue
			}
			text, _ := safety.Number(a.name, a.k, b.name, b.k)
			isMatch(t, "P25.6: the number", text, a.name, a.k, b.name, b.k, true, api.OK)
			isMatch(t, "P25.6: the other way round", text, b.name, b.k, a.name, a.k, true, api.OK)
		}
	}
}

// P25.6: the digits apart in every way that Read passes over: none, one sign, many, at each place, everywhere, drawn.
func TestMatchOfDigitsApart(t *testing.T) {
	ka, kb := of32(1), of32(2)
	isMatch(t, "P25.6: nothing between", digits, "alice", ka, "bob", kb, true, api.OK)
	for _, s := range signs() {
		for at := range 61 {
			isMatch(t, "P25.6: a sign between", digits[:at]+s+digits[at:], "alice", ka, "bob", kb, true, api.OK)
		}
		isMatch(t, "P25.6: everywhere", s+strings.Join(strings.Split(digits, ""), s)+s, "bob", kb, "alice", ka, true, api.OK)
		isMatch(t, "P25.6: for the blanks", strings.ReplaceAll(number, " ", s), "bob", kb, "alice", ka, true, api.OK)
	}
	random := rand.New(rand.NewSource(256))
	for range 2000 {
		isMatch(t, "P25.6: drawn", drawnApart(random, digits), "alice", ka, "bob", kb, true, api.OK)
	}
}

// drawnApart: digits with any signs that are passed over ahead, between and behind.
func drawnApart(random *rand.Rand, digits string) string {
	var text strings.Builder
	for at := range len(digits) + 1 {
		for random.Intn(2) == 0 {
			text.WriteByte(" \t\n-"[random.Intn(4)])
		}
		text.WriteString(digits[at:min(at+1, len(digits))])
	}
	return text.String()
}

// P25.6: each digit turned into each other one, with the blanks, without them, and with other signs: false, and no error.
func TestMatchOfAnotherDigit(t *testing.T) {
	ka, kb := of32(1), of32(2)
	random := rand.New(rand.NewSource(6))
	for at := range 60 {
		for d := byte('0'); d <= '9'; d++ {
			text := digits[:at] + string(d) + digits[at+1:]
			same := digits[at] == d
			for _, form := range []string{text, apart(text), drawnApart(random, text)} {
				isMatch(t, "P25.6: another digit", form, "alice", ka, "bob", kb, same, api.OK)
				isMatch(t, "P25.6: another digit", form, "bob", kb, "alice", ka, same, api.OK)
			}
		}
	}
}

// P25.5: the same digits in another order are others: the halves exchanged, two groups exchanged, two neighbours exchanged, all backwards.
func TestMatchOfAnotherOrder(t *testing.T) {
	ka, kb := of32(1), of32(2)
	others := []string{halfAlice + halfBob, halfBob + halfBob, halfAlice + halfAlice}
	for at := range 59 {
		if digits[at] != digits[at+1] {
			others = append(others, digits[:at]+digits[at+1:at+2]+digits[at:at+1]+digits[at+2:])
		}
	}
	for group := range 11 {
		at := 5 * group
		others = append(others, digits[:at]+digits[at+5:at+10]+digits[at:at+5]+digits[at+10:])
	}
	backwards := []byte(digits)
	for i := range backwards {
		backwards[i] = digits[59-i]
	}
	for _, text := range append(others, string(backwards)) {
		isMatch(t, "P25.5: another order", text, "alice", ka, "bob", kb, false, api.OK)
		isMatch(t, "P25.5: another order", apart(text), "bob", kb, "alice", ka, false, api.OK)
	}
}

// P25.5: another name or another key on either side, and names exchanged without their keys: false.
func TestMatchOfOthers(t *testing.T) {
	ka, kb := of32(1), of32(2)
	for _, c := range []struct{ a, b side }{
		{side{"alicf", ka}, side{"bob", kb}},
		{side{"alice\x00", ka}, side{"bob", kb}},
		{side{"alice", kb}, side{"bob", kb}},
		{side{"alice", ka}, side{"bob", ka}},
		{side{"alice", ka}, side{"Bob", kb}},
		{side{"alice", kb}, side{"bob", ka}},
		{side{"bob", ka}, side{"alice", kb}},
		{side{"alice", ka}, side{"alice", ka}},
		{side{"bob", kb}, side{"bob", kb}},
	} {
		isMatch(t, "P25.5: others", number, c.a.name, c.a.k, c.b.name, c.b.k, false, api.OK)
		isMatch(t, "P25.5: others", number, c.b.name, c.b.k, c.a.name, c.a.k, false, api.OK)
	}
	for bit := range 256 {
		other := ka
		other[bit/8] ^= 1 << (bit % 8)
		isMatch(t, "P25.5: another bit of a key", number, "alice", other, "bob", kb, false, api.OK)
	}
}

// P25.1, P25.5: the text's error, then that of name a, then that of b: all texts with all pairs of names; beside an error the answer is false, of the very number too.
func TestMatchRefused(t *testing.T) {
	ka, kb := of32(1), of32(2)
	long := strings.Repeat("n", 17)
	for _, text := range []string{number, digits, order, "", "x", digits[1:], digits + "0", number + "x", "\u0661" + digits[1:], number + "\r", number + "\xff", " \t\n-"} {
		for _, a := range manyNames() {
			for _, b := range manyNames() {
				want, e := wordsMatch(text, a, ka, b, kb)
				isMatch(t, "P25.1, P25.5", text, a, ka, b, kb, want, e)
			}
		}
		if _, e := wordsRead(text); e != 0 {
			isMatch(t, "the text's error first", text, "", ka, long, kb, false, badDigits)
			isMatch(t, "the text's error first", text, long, ka, "", kb, false, badDigits)
			isMatch(t, "the text's error first", text, "alice", ka, long, kb, false, badDigits)
			isMatch(t, "the text's error", text, "alice", ka, "bob", kb, false, badDigits)
		}
	}
	isMatch(t, "a's error first", number, "", ka, long, kb, false, empty)
	isMatch(t, "a's error first", number, long, ka, "", kb, false, tooLong)
	isMatch(t, "b's error", number, "alice", ka, "", kb, false, empty)
	isMatch(t, "b's error", number, "alice", ka, long, kb, false, tooLong)
	isMatch(t, "16 bytes", number, "alice", ka, long[1:], kb, false, api.OK)
}

// P25.5: drawn calls, by the chapter's words.
func TestDrawnMatches(t *testing.T) {
	random := rand.New(rand.NewSource(255))
	sides := append(someSides(), side{"", of32(1)}, side{strings.Repeat("n", 17), of32(2)})
	for range 1500 {
		a, b := sides[random.Intn(len(sides))], sides[random.Intn(len(sides))]
		text, e := wordsNumber(a.name, a.k, b.name, b.k)
		if e != 0 || random.Intn(4) == 0 {
			text = number
		}
		text = drawnApart(random, text)
		if random.Intn(2) == 0 {
			at := random.Intn(len(text))
			text = text[:at] + []string{"0", "5", "9", " ", "-", "x", "\xff", "\u0130"}[random.Intn(8)] + text[at+1:]
		}
		isAlike(t, "drawn", text, a.name, a.k, b.name, b.k)
	}
}
