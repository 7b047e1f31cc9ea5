package lethe

import (
	"strconv"

	"lethe/api"
	"lethe/wire"
)

// nothing: stands where no bytes or no numbers are.
const nothing = "-"

// longest: the greatest number of 18 digits.
const longest = 999999999999999999

func isShort(n int) bool { return -longest <= n && n <= longest }

// readNumber: each number has one form, so what would be written otherwise is none.
func readNumber(part string) (int, bool) {
	n, err := strconv.Atoi(part)
	if err != nil || !isShort(n) || strconv.Itoa(n) != part {
		return 0, false
	}
	return n, true
}

// writeNumber: false, if it has too many digits.
func writeNumber(n int) (string, bool) { return strconv.Itoa(n), isShort(n) }

func readKey(part string) (api.Key, bool) {
	b, e := wire.Unhex(part)
	if e != api.OK || len(b) != len(api.Key{}) {
		return api.Key{}, false
	}
	return api.Key(b), true
}

func writeKey(k api.Key) string { return wire.Hex(k[:]) }

func readBytes(part string) ([]byte, bool) {
	if part == nothing {
		return nil, true
	}
	b, e := wire.Unhex(part)
	if e != api.OK || len(b) == 0 {
		return nil, false
	}
	return b, true
}

func writeBytes(b []byte) string {
	if len(b) == 0 {
		return nothing
	}
	return wire.Hex(b)
}

const keepSize = 8 // bytes of one number of a keep

func readKeep(part string) ([]uint64, bool) {
	b, right := readBytes(part)
	if !right || len(b)%keepSize != 0 {
		return nil, false
	}
	var numbers []uint64
	for ; len(b) > 0; b = b[keepSize:] {
		numbers = append(numbers, readUint64(b[:keepSize]))
	}
	return numbers, true
}

// readUint64: the highest byte stands first.
func readUint64(b []byte) uint64 {
	n := uint64(0)
	for _, c := range b {
		n = n<<8 | uint64(c)
	}
	return n
}

func writeKeep(numbers []uint64) string {
	b := make([]byte, 0, len(numbers)*keepSize)
	for _, n := range numbers {
		for shift := 64 - 8; shift >= 0; shift -= 8 {
			b = append(b, byte(n>>shift))
		}
	}
	return writeBytes(b)
}
