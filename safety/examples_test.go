package safety_test

import (
	"strings"
	"testing"

	"lethe/api"
)

// P25.2, P25.3, P25.6: the chapter's example, either way round.
func TestChapterNumber(t *testing.T) {
	alice, bob := of32(1), of32(2)
	isHalf(t, "P25.2", "alice", alice, "666535064773935883793737020507", api.OK)
	isHalf(t, "P25.2", "bob", bob, "534240950503946380342171611951", api.OK)
	isNumber(t, "P25.3", "alice", alice, "bob", bob, number, api.OK)
	isNumber(t, "P25.3, P25.6", "bob", bob, "alice", alice, number, api.OK)
	isMatch(t, "P25.5", number, "alice", alice, "bob", bob, true, api.OK)
	isMatch(t, "P25.5", number, "bob", bob, "alice", alice, true, api.OK)
}

// P25.1 to P25.5: the chapter's table, row by row.
func TestChapterTable(t *testing.T) {
	k, long := of32(7), strings.Repeat("n", 17)
	isHalf(t, "P25.2", "", k, "", api.ErrEmpty)
	isHalf(t, "P25.2", long, k, "", api.ErrLong)
	isNumber(t, "P25.3", "", k, long, k, "", api.ErrEmpty)
	isRead(t, "P25.4", "", "", api.ErrDigits)
	isRead(t, "P25.4", digits+"x", "", api.ErrDigits)
	isMatch(t, "P25.5", "x", "", k, "", k, false, api.ErrDigits)
}

// The chapter's section 'Errors'.
func TestChapterErrors(t *testing.T) {
	if api.ErrLong != tooLong || api.ErrEmpty != empty || api.ErrDigits != badDigits || api.MaxName != maxName {
		t.Errorf("ErrLong %d, ErrEmpty %d, ErrDigits %d, MaxName %d", api.ErrLong, api.ErrEmpty, api.ErrDigits, api.MaxName)
	}
}
