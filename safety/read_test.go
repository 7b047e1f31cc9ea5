package safety_test

import (
	"math/rand"
	"strings"
	"testing"
	"unicode/utf8"

	"lethe/api"
)

// order: sixty digits of which each tells its place well enough.
const order = "012345678998765432100123456789987654321055555000009999912345"

// P25.4: no digits, each number of them up to 130, and such numbers whose low bits are those of sixty.
func TestHowManyDigits(t *testing.T) {
	for n := range 131 {
		for _, d := range []string{"0", "5", "9"} {
			isCounted(t, n, strings.Repeat(d, n))
			isCounted(t, n, strings.Repeat(d+" ", n))
			isCounted(t, n, strings.Repeat("-"+d+"\n", n))
		}
	}
	for _, n := range []int{60 + 256, 1 << 16, 60 + 1<<16, 60 + 1<<20} {
		isCounted(t, n, strings.Repeat("7", n))
	}
	for _, n := range []int{59, 61} {
		isCounted(t, n, apart(order + "0")[:n+11]) // with its blanks
	}
}

// isCounted: Read's answer of a text that has so many digits, and nothing that is refused.
func isCounted(t *testing.T, n int, text string) {
	t.Helper()
	read, e := wordsRead(text)
	if (e == 0) != (n == 60) {
		t.Fatalf("the words of %d digits: error %d", n, e)
	}
	isRead(t, "P25.4: so many digits", text, read, e)
}

// P25.4: the digits come back in their order, each of the ten.
func TestDigitsComeBack(t *testing.T) {
	isRead(t, "P25.4", order, order, api.OK)
	isRead(t, "P25.4", apart(order), order, api.OK)
	for d := '0'; d <= '9'; d++ {
		for at := range 60 {
			text := order[:at] + string(d) + order[at+1:]
			isRead(t, "P25.4: each digit at each place", text, text, api.OK)
		}
	}
}

// signs: some of those that are passed over, alone, together and many of them.
func signs() []string {
	return []string{" ", "\t", "\n", "-", "  ", " -", "- ", "\n\n", "\t\t", "--", " \t\n-", "-\n\t ", "\n\t - \n", strings.Repeat(" ", 1000), strings.Repeat("\t", 256), strings.Repeat("\n", 257), strings.Repeat("-", 500), strings.Repeat(" \t\n-", 20000)}
}

// P25.4: what is passed over is so at each place, and at all of them together.
func TestPassedOver(t *testing.T) {
	for _, s := range signs() {
		for at := range 61 {
			isRead(t, "P25.4: passed over", order[:at]+s+order[at:], order, api.OK)
		}
		isRead(t, "P25.4: ahead and behind", s+order+s, order, api.OK)
		isRead(t, "P25.4: everywhere", s+strings.Join(strings.Split(order, ""), s)+s, order, api.OK)
		isRead(t, "P25.4: no digits at all", s, "", badDigits)
		isRead(t, "P25.4: 59 digits", s+order[1:]+s, "", badDigits)
		isRead(t, "P25.4: 61 digits", s+order+s+"0"+s, "", badDigits)
	}
}

// isRefused: a text that stands in the way is refused at each place between sixty digits, in each digit's stead, and in the midst of a number with its blanks.
func isRefused(t *testing.T, bad string) {
	t.Helper()
	for at := range 61 {
		isRead(t, "P25.4: between", order[:at]+bad+order[at:], "", badDigits)
		if at < 60 {
			isRead(t, "P25.4: in a digit's stead", order[:at]+bad+order[at+1:], "", badDigits)
		}
	}
	for at := range len(number) + 1 {
		isRead(t, "P25.4: in a number", number[:at]+bad+number[at:], "", badDigits)
	}
	isRead(t, "P25.4: alone", bad, "", badDigits)
	isRead(t, "P25.4: sixty of them", strings.Repeat(bad, 60), "", badDigits)
}

// P25.4: each byte: ten are digits, four are passed over, every other one is refused.
func TestEveryByte(t *testing.T) {
	taken := 0
	for b := range 256 {
		text := string([]byte{byte(b)})
		switch {
		case strings.Contains(" \t\n-", text):
			taken++
			isRead(t, "P25.4: a byte that is passed over", text+order+text, order, api.OK)
		case strings.Contains("0123456789", text):
			taken++
			isRead(t, "P25.4: one digit more", order+text, "", badDigits)
			isRead(t, "P25.4: a digit", order[:59]+text, order[:59]+text, api.OK)
		default:
			isRefused(t, text)
		}
	}
	if taken != 14 {
		t.Errorf("%d bytes are taken", taken)
	}
}

// P25.4: each rune that is none of the fourteen: whatever its low bytes are, it is neither a digit nor passed over.
func TestEveryRune(t *testing.T) {
	for r := rune(0x80); r <= utf8.MaxRune; r++ {
		text := string(r)
		isRead(t, "P25.4: a rune behind", order+text, "", badDigits)
		isRead(t, "P25.4: a rune in a digit's stead", order[:30]+text+order[31:], "", badDigits)
		if t.Failed() {
			return
		}
	}
}

// P25.4: runes at each place: such whose low byte, or whose low two bytes, are those of a sign that is taken; other scripts' digits, blanks and strokes.
func TestRunesAtEachPlace(t *testing.T) {
	for _, low := range " \t\n-0123456789" {
		for _, high := range []rune{0x100, 0x200, 0x600, 0x2000, 0x3000, 0xff00, 0x10000, 0x1f000, 0x100000} {
			isRefused(t, string(high+low))
		}
	}
	for _, r := range []rune{0xa0, 0xad, 0xb2, 0x661, 0x6f0, 0x966, 0x1680, 0x2002, 0x200b, 0x2010, 0x2013, 0x2028, 0x2060, 0x2212, 0x2460, 0x3000, 0xfeff, 0xff0d, 0xff10, 0xff15, 0xfffd, 0x1d7ce, 0x10ffff} {
		isRefused(t, string(r))
	}
}

// P25.4: bytes that are no UTF-8 at each place: alone, cut runes, halves of pairs, and such as would be a digit or a blank if they were not written too long.
func TestNoUTF8(t *testing.T) {
	for _, bad := range []string{"\x80", "\xb0", "\xa0", "\xbf", "\xc0", "\xc1", "\xc2", "\xe2", "\xe2\x80", "\xf0\x9f\x98", "\xf5", "\xfe", "\xff", "\xff\xff", "\xc0\xb0", "\xc0\xa0", "\xc0\x8a", "\xc0\xad", "\xe0\x80\xb5", "\xe0\x80\xa0", "\xf0\x80\x80\xb9", "\xf0\x80\x80\xad", "\xed\xa0\x80", "\xed\xb0\xb0", "\xf4\x90\x80\xb0", "\xf8\x80\x80\x80\xb0"} {
		isRefused(t, bad)
	}
}

// P25.4: drawn texts, by the chapter's words: most with about sixty digits, some with something else among them.
func TestDrawnTexts(t *testing.T) {
	random := rand.New(rand.NewSource(254))
	taken := 0
	for range 20000 {
		var text strings.Builder
		bad := random.Intn(3) == 0
		for n := 58 + random.Intn(5); n > 0; n-- {
			for random.Intn(3) == 0 {
				text.WriteByte(" \t\n-"[random.Intn(4)])
			}
			if bad && random.Intn(60) == 0 {
				text.WriteByte(byte(random.Intn(256)))
			}
			text.WriteByte("0123456789"[random.Intn(10)])
		}
		read, e := wordsRead(text.String())
		isRead(t, "P25.4: drawn", text.String(), read, e)
		if e == 0 {
			taken++
		}
	}
	if taken < 1000 || taken > 15000 {
		t.Errorf("%d of the drawn texts are taken", taken)
	}
}
