package page

// polynomial: what CRC-32C XORs into the register for each 1 that is shifted out of it.
const polynomial = 0x82f63b78

// shifts: what eight shifts do to a register that holds the number of the entry, so that Sum has one step a byte.
var shifts = allShifts()

func allShifts() (table [256]uint32) {
	for i := range table {
		table[i] = shifted(uint32(i))
	}
	return table
}

func shifted(register uint32) uint32 {
	for range 8 {
		low := register & 1
		register >>= 1
		if low == 1 {
			register ^= polynomial
		}
	}
	return register
}

// Sum: the checksum of bytes (CRC-32C), of all parts one behind the other.
func Sum(parts ...[]byte) uint32 {
	register := ^uint32(0)
	for _, part := range parts {
		for _, b := range part {
			register = register>>8 ^ shifts[byte(register)^b]
		}
	}
	return ^register
}
