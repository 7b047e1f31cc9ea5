package aes

// Next: the counter block that comes n behind.
func Next(block [16]byte, n uint64) [16]byte {
	var carry uint64
	for i := blockSize - 1; i >= 0; i-- {
		sum := uint64(block[i]) + n&0xff + carry
		block[i] = byte(sum)
		carry = sum >> 8
		n >>= 8
	}
	return block
}

// Stream: text, byte by byte changed by the encrypted counter blocks from this one on.
func (c *Cipher) Stream(first [16]byte, text []byte) []byte {
	out := make([]byte, len(text))
	for at := 0; at < len(text); at += blockSize {
		stream := c.Encrypt(first)
		// The rest of the last block would tell what hides a longer text: it must not lie in the answer's spare room.
		for i, b := range text[at:min(at+blockSize, len(text))] {
			out[at+i] = b ^ stream[i]
		}
		first = Next(first, 1)
	}
	return out
}
