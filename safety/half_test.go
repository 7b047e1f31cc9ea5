package safety_test

import (
	"crypto/sha256"
	"strings"
	"testing"

	"lethe/api"
	"lethe/safety"
	"lethe/sha"
)

// throughSha: the project's own hash, as wordsHalf takes one.
func throughSha(b []byte) [32]byte { return sha.Sum(b) }

// P25.2: every name with every key, by the definition, through sha and through Go's own library.
func TestHalfByItsDefinition(t *testing.T) {
	for _, name := range someNames() {
		for _, k := range someKeys() {
			want, e := wordsHalf(throughSha, name, k)
			isHalf(t, "P25.2: through sha", name, k, want, e)
			want, e = wordsHalf(sha256.Sum256, name, k)
			isHalf(t, "P25.2", name, k, want, e)
			if !onlyDigits(want, 30) || e != api.OK {
				t.Errorf("P25.2: the words have %q, error %d, of %q", want, e, name)
			}
		}
	}
}

// rising: the bytes 0 to 31.
func rising() api.Key {
	var k api.Key
	for i := range k {
		k[i] = byte(i)
	}
	return k
}

// P25.2: halves that were worked out by another program than Go's: of names of 1 and of 16 bytes, of 00, of ff and of bytes that are no UTF-8.
func TestHalvesWrittenOut(t *testing.T) {
	for _, c := range []struct {
		name string
		k    api.Key
		want string
	}{
		{"a", api.Key{}, "580723224287620770338441926864"},
		{"\x00", api.Key{}, "094664169581990733401964621125"},
		{"0123456789abcdef", of32(1), "733994279350758624855592749737"},
		{strings.Repeat("\xff", 16), of32(0xff), "057953320257962564653792002312"},
		{strings.Repeat("\x00", 16), rising(), "859734729831491869915622299593"},
		{"\xc3\x28\xed\xa0\x80\xf8", rising(), "161697435007849828173112460728"},
	} {
		isHalf(t, "P25.2: written out", c.name, c.k, c.want, api.OK)
	}
}

// P25.2: zeros stay ahead in every group: one to five of them at the half's beginning, and each of the six groups all zeros once. Worked out by another program.
func TestZerosAhead(t *testing.T) {
	for _, c := range []struct {
		first, second, third byte // of the identity, behind a zero
		want                 string
	}{
		{0, 0, 0, "042102627923928467150115433599"},
		{0, 0, 140, "007495530634495676171551145083"},
		{0, 0, 119, "000268829916825895141331974860"},
		{0, 0x2c, 0xb8, "000038183828703915397872923472"},
		{0, 0xe0, 0xb0, "000008027798466172964985534554"},
		{1, 0xa1, 0x80, "753910000078904892137701968069"},
		{3, 0x08, 0xb0, "490757291700000057566366396942"},
		{0, 0x4a, 0x73, "608367658477551000004165435314"},
		{0, 0x93, 0xe7, "523963761893716793880000028867"},
		{2, 0x4e, 0x53, "408402025454506369070669900000"},
	} {
		k := api.Key{1: c.first, 2: c.second, 3: c.third}
		isHalf(t, "P25.2: zeros ahead", "zero", k, c.want, api.OK)
		isNumber(t, "P25.3: zeros ahead", "zero", k, "zero", k, apart(c.want+c.want), api.OK)
	}
}

// apart: sixty digits with blanks between the groups, written out.
func apart(d string) string {
	return d[:5] + " " + d[5:10] + " " + d[10:15] + " " + d[15:20] + " " + d[20:25] + " " + d[25:30] + " " +
		d[30:35] + " " + d[35:40] + " " + d[40:45] + " " + d[45:50] + " " + d[50:55] + " " + d[55:]
}

// P25.1, P25.2: no name, and names that are too long; beside the error there are no digits.
func TestHalfRefused(t *testing.T) {
	for _, k := range someKeys() {
		isHalf(t, "P25.1, P25.2", "", k, "", empty)
		for _, name := range longNames() {
			isHalf(t, "P25.1, P25.2", name, k, "", tooLong)
		}
	}
}

// P25.2: all of the name and of the identity count: each bit of either, and the name's length (a name with a zero behind it is another one).
func TestHalfHangsOnEveryBit(t *testing.T) {
	name, k := "\x00name\xff", rising()
	was, _ := safety.Half(name, k)
	seen := map[string]string{was: "the half itself"}
	look := func(what, name string, k api.Key) {
		t.Helper()
		half, e := safety.Half(name, k)
		if e != api.OK || seen[half] != "" {
			t.Errorf("P25.2: with %s: %q, error %d, as with %s", what, half, e, seen[half])
		}
		seen[half] = what
	}
	for bit := range 8 * len(name) {
		other := []byte(name)
		other[bit/8] ^= 1 << (bit % 8)
		look("another bit of the name", string(other), k)
	}
	for bit := range 256 {
		other := k
		other[bit/8] ^= 1 << (bit % 8)
		look("another bit of the identity", name, other)
	}
	look("a zero behind the name", name+"\x00", k)
	look("a byte of the name less", name[:5], k)
	look("a byte of the name less, ahead", name[1:], k)
}
