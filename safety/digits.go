package safety

import (
	"strconv"
	"strings"

	"lethe/api"
)

const (
	rounds     = 15                         // how often a half's digest is hashed again
	groupSize  = 5                          // a group's digits, and the bytes of which they are made
	halfGroups = 6                          // groups of one half
	numberSize = 2 * halfGroups * groupSize // digits of a number
	groupBound = 100000                     // above each number that a group's digits can write
)

// halfDigits: of a digest's first thirty bytes, group by group.
func halfDigits(d api.Digest) string {
	digits := ""
	for group := range halfGroups {
		at := group * groupSize
		digits += groupDigits(d[at : at+groupSize])
	}
	return digits
}

// groupDigits: the rest of a group's number, always written with five digits.
func groupDigits(group []byte) string {
	n := uint64(0)
	for _, b := range group {
		n = n<<8 | uint64(b)
	}
	return strconv.FormatUint(groupBound+n%groupBound, 10)[1:] // the 1 ahead keeps the zeros in
}

// inGroups: a blank between each two groups.
func inGroups(digits string) string {
	var groups []string
	for at := 0; at < len(digits); at += groupSize {
		groups = append(groups, digits[at:at+groupSize])
	}
	return strings.Join(groups, " ")
}

// standsForNothing: is r one of the signs by which a reader keeps digits apart?
func standsForNothing(r rune) bool {
	switch r {
	case ' ':
		fallthrough
	case '\t':
		fallthrough
	case '\n':
		fallthrough
	case '-':
		return true
	}
	return false
}
