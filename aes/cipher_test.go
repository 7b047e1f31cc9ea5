package aes_test

import (
	"bytes"
	"math/rand"
	"testing"

	"lethe/aes"
	"lethe/api"
)

// P4.5: the chapter's example, there and back.
func TestExampleOfABlock(t *testing.T) {
	c := made(t, unhex(t, counting))
	plain, hidden := unhexBlock(t, "00112233445566778899aabbccddeeff"), unhexBlock(t, "8ea2b7ca516745bfeafc49904b496089")
	if got := c.Encrypt(plain); got != hidden {
		t.Errorf("Encrypt = %x, want %x", got, hidden)
	}
	if got := c.Decrypt(hidden); got != plain {
		t.Errorf("Decrypt = %x, want %x", got, plain)
	}
}

// P4.4: every length but 32 is refused, and there is no cipher then; of nil too.
func TestKeysOfOtherLengths(t *testing.T) {
	for n := range 70 {
		c, e := aes.New(make([]byte, n))
		if taken := c != nil; taken != (n == 32) || (e == api.OK) != (n == 32) || (n != 32 && e != api.ErrKeySize) {
			t.Errorf("New of %d bytes: cipher %v, error %d", n, taken, e)
		}
	}
	for _, key := range [][]byte{nil, make([]byte, 1<<16+32), roomy(make([]byte, 31))} {
		if c, e := aes.New(key); c != nil || e != api.ErrKeySize {
			t.Errorf("New of %d bytes: cipher %v, error %d", len(key), c != nil, e)
		}
	}
}

// P4.4, P4.5: every block under every key is encrypted as the chapter's words and the library say, and decrypted to what it was.
func TestBlocksAgainstTheModel(t *testing.T) {
	random := rand.New(rand.NewSource(5))
	for _, key := range keys(t) {
		c, model, library := made(t, key), newModel(key), libraryBlock(t, key)
		for range 20 {
			block := someBlock(random)
			hidden := c.Encrypt(block)
			if want := model.encrypt(block); hidden != want {
				t.Fatalf("key %x: Encrypt(%x) = %x, want %x", key, block, hidden, want)
			}
			var want [16]byte
			library.Encrypt(want[:], block[:])
			if hidden != want {
				t.Fatalf("key %x: Encrypt(%x) = %x, the library %x", key, block, hidden, want)
			}
			library.Decrypt(want[:], block[:])
			if got := c.Decrypt(block); got != want {
				t.Fatalf("key %x: Decrypt(%x) = %x, the library %x", key, block, got, want)
			}
		}
	}
}

// P4.8: there and back, and back and there, for blocks with a single bit too.
func TestBlocksThereAndBack(t *testing.T) {
	var blocks [][16]byte
	for bit := range 128 {
		var block [16]byte
		block[bit/8] = 1 << (bit % 8)
		blocks = append(blocks, block)
	}
	random := rand.New(rand.NewSource(6))
	for range 50 {
		blocks = append(blocks, someBlock(random))
	}
	for _, key := range keys(t) {
		c := made(t, key)
		for _, b := range blocks {
			if got := c.Decrypt(c.Encrypt(b)); got != b {
				t.Fatalf("key %x: Decrypt(Encrypt(%x)) = %x", key, b, got)
			}
			if got := c.Encrypt(c.Decrypt(b)); got != b {
				t.Fatalf("key %x: Encrypt(Decrypt(%x)) = %x", key, b, got)
			}
		}
	}
}

// P4.7: a wiped cipher is that of 32 zero bytes, in each of its calls, and stays so however often it is wiped.
func TestWipedIsThatOfZeros(t *testing.T) {
	random := rand.New(rand.NewSource(7))
	zeros := make([]byte, 32)
	for _, key := range keys(t) {
		c := made(t, key)
		for times := range 3 {
			c.Wipe()
			block, text := someBlock(random), someBytes(random, 50)
			var hidden, open [16]byte
			libraryBlock(t, zeros).Encrypt(hidden[:], block[:])
			libraryBlock(t, zeros).Decrypt(open[:], block[:])
			if c.Encrypt(block) != hidden || c.Decrypt(block) != open || !bytes.Equal(c.Stream(block, text), libraryStream(t, zeros, block, text)) {
				t.Fatalf("key %x, wiped %d times: not the cipher of zeros", key, times+1)
			}
		}
	}
}

// P4.1: ciphers know nothing of one another: two of one key and one of another, used in turns; one of them is wiped.
func TestCiphersInTurns(t *testing.T) {
	one, two := unhex(t, counting), unhex(t, other)
	a, b, twin := made(t, one), made(t, two), made(t, one)
	random := rand.New(rand.NewSource(8))
	check := func(what string, c *aes.Cipher, key []byte) {
		t.Helper()
		block, text := someBlock(random), someBytes(random, 40)
		var want [16]byte
		libraryBlock(t, key).Encrypt(want[:], block[:])
		if got := c.Encrypt(block); got != want || c.Decrypt(got) != block {
			t.Errorf("%s: Encrypt(%x) = %x, want %x, and back", what, block, got, want)
		}
		if !bytes.Equal(c.Stream(block, text), libraryStream(t, key, block, text)) {
			t.Errorf("%s: another stream", what)
		}
	}
	for range 5 {
		check("a", a, one)
		check("b", b, two)
		check("a's twin", twin, one)
	}
	a.Wipe()
	for range 5 {
		check("b behind a's wiping", b, two)
		check("a wiped", a, make([]byte, 32))
		check("a's twin behind a's wiping", twin, one)
	}
	check("a new one behind a's wiping", made(t, one), one)
}

// P4.1: a key is neither changed, its spare room included, nor kept: what its owner writes into it later is not seen, and wiping does not reach it.
func TestKeyIsNotKept(t *testing.T) {
	key := roomy(unhex(t, counting))
	before := joined(whole(key))
	c := made(t, key)
	plain := unhexBlock(t, "00112233445566778899aabbccddeeff")
	hidden := c.Encrypt(plain)
	c.Stream(plain, key)
	if !bytes.Equal(whole(key), before) {
		t.Errorf("New changed its key")
	}
	clear(whole(key))
	if c.Encrypt(plain) != hidden || c.Decrypt(hidden) != plain {
		t.Errorf("the cipher hangs on its key's memory")
	}
	copy(whole(key), before)
	c.Wipe()
	if !bytes.Equal(whole(key), before) {
		t.Errorf("Wipe reached the key that was handed in")
	}
}

// P4.1: a refused key is not changed either.
func TestRefusedKeyIsNotChanged(t *testing.T) {
	for _, n := range []int{0, 31, 33} {
		key := roomy(bytes.Repeat([]byte{7}, n))
		before := joined(whole(key))
		aes.New(key)
		if !bytes.Equal(whole(key), before) {
			t.Errorf("New of %d bytes changed its key", n)
		}
	}
}

// P4.1: encrypting and decrypting leave the cipher as it was: the same question has the same answer.
func TestAskingChangesNothing(t *testing.T) {
	c := made(t, unhex(t, other))
	block := unhexBlock(t, "f0f1f2f3f4f5f6f7f8f9fafbfcfdfeff")
	hidden, open, stream := c.Encrypt(block), c.Decrypt(block), c.Stream(block, make([]byte, 33))
	for range 3 {
		if c.Encrypt(block) != hidden || c.Decrypt(block) != open || !bytes.Equal(c.Stream(block, make([]byte, 33)), stream) {
			t.Fatalf("another answer to the same question")
		}
	}
}
