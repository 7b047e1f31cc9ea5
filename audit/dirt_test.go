package audit_test

import (
	"fmt"
	"testing"
)

// P27.3, P27.4: stray bytes in the log, byte by byte: the marker, its last byte, the slots.
func TestBytesInTheLog(t *testing.T) {
	image := imageOf(9, recs(rec(5, "k", string(full(0x11, 32)))))
	tail := " Frame:2584 Blank:3584 Frame:3602 Public:3603 Frame:3605 Secret:3637 Blank:4608"
	for at := range 2560 {
		for _, c := range []byte{1, 0x80} {
			what := fmt.Sprintf("%02x at %d", c, at)
			dirty := turned(image, at, c)
			isCode(t, what, isAudited(t, what, dirty), 0)
			head := fmt.Sprintf("Blank:%d ", at)
			if at == 0 {
				head = ""
			}
			head += fmt.Sprintf("LogPart:%d", at+1)
			if at < 2559 {
				head += " Blank:2560"
			}
			isRegions(t, what, dirty, head+tail)
		}
	}
	dirty := laid(image, 0, full(9, 2560))
	isRegions(t, "a log full of bytes", dirty, "LogPart:2560"+tail)
	dirty = laid(image, 512, pageOf(1, rec(5, "j", string(full(0x22, 32)))))
	isCode(t, "a page in a slot", isAudited(t, "a page in a slot", dirty), 0)
}

// P27.1, P27.3: behind a page's head or records nothing may stand: such an image can't be read, whether its checksum fits or not.
func TestBytesInUsedPages(t *testing.T) {
	image := imageOf(9, recs(rec(5, "k", string(full(0x11, 32)))))
	for at := 2560; at < 4608; at++ {
		if at >= 2584 && at < 3584 || at >= 3637 {
			what := fmt.Sprintf("01 at %d", at)
			dirty := turned(image, at, 1)
			isCode(t, what, isAudited(t, what, dirty), badSum)
			home := 2560 + (at-2560)/1024*1024
			fitting := laid(dirty, home, sealed(dirty[home:home+1024]))
			isCode(t, what+", with a checksum", isAudited(t, what+", with a checksum", fitting), slack)
		}
	}
}

// P27.3, P27.4: bytes in pages behind the used ones, and behind the last home.
func TestBytesBehind(t *testing.T) {
	image := imageOf(16, recs(rec(1, "k", "v"))) // room for 3 pages; homes from 3584 to 6656; three sectors behind them
	for at := 5632; at < 8192; at++ {
		what := fmt.Sprintf("05 at %d", at)
		dirty := turned(image, at, 5)
		isCode(t, what, isAudited(t, what, dirty), 0)
		want := fmt.Sprintf("Blank:3584 Frame:3608 Blank:4608 Frame:4626 Public:4627 Frame:4630 Blank:%d Stray:%d", at, at+1)
		if at < 8191 {
			want += " Blank:8192"
		}
		isRegions(t, what, dirty, want)
	}
	dirty := laid(image, 5632, full(5, 2560))
	isRegions(t, "all behind", dirty, "Blank:3584 Frame:3608 Blank:4608 Frame:4626 Public:4627 Frame:4630 Blank:5632 Stray:8192")
	dirty = laid(image, 5632, pageOf(2, rec(5, "s", string(full(3, 32)))))
	isCode(t, "a page that page 0 doesn't tell of", isAudited(t, "a page that page 0 doesn't tell of", dirty), 0)
}

// P27.3: bytes in turn with zeros, in all places where they may be.
func TestStripes(t *testing.T) {
	for step := 1; step < 7; step++ {
		image := imageOf(16, recs(rec(1, "k", "v")))
		for at := 0; at < len(image); at += step {
			if at < 3584 || at >= 5632 {
				image[at] = byte(1 + at%255)
			}
		}
		isCode(t, "stripes", isAudited(t, fmt.Sprintf("each byte number %d", step), image), 0)
	}
}
