package audit_test

import (
	"bytes"
	"encoding/binary"
	"fmt"
	"math/rand"
	"slices"
	"strings"
	"testing"

	"lethe/api"
	"lethe/audit"
	"lethe/sectors"
	"lethe/store"
)

// The numbers as the chapters have them, so that a changed constant is seen.
const (
	badPlace = api.Errno(4)
	tooLong  = api.Errno(5)
	empty    = api.Errno(6)
	tooShort = api.Errno(10)
	badSize  = api.Errno(12)
	noImage  = api.Errno(83)
	noRoom   = api.Errno(92)
	noMark   = api.Errno(100)
	badSum   = api.Errno(101)
	badPage  = api.Errno(102)
	noKind   = api.Errno(103)
	slack    = api.Errno(104)
	noRecord = api.Errno(110)
	noOrder  = api.Errno(111)
	noFormat = api.Errno(123)

	blank   = 1
	frame   = 2
	public  = 3
	secret  = 4
	logPart = 5
	stray   = 6
)

func joined(parts ...[]byte) []byte { return bytes.Join(parts, nil) }

func zeros(n int) []byte { return make([]byte, n) }

func full(c byte, n int) []byte { return bytes.Repeat([]byte{c}, n) }

func two(n int) []byte { return binary.BigEndian.AppendUint16(nil, uint16(n)) }

func four(n uint32) []byte { return binary.BigEndian.AppendUint32(nil, n) }

func rec(table int, key, value string) api.Record {
	return api.Record{Table: table, Key: []byte(key), Value: []byte(value)}
}

func recs(list ...api.Record) []api.Record { return list }

// sized: a record of a table whose bytes are n.
func sized(table int, key string, n int) api.Record {
	return rec(table, key, strings.Repeat("v", n-4-len(key)))
}

func bytesOf(r api.Record) []byte {
	return joined([]byte{byte(r.Table), byte(len(r.Key))}, r.Key, two(len(r.Value)), r.Value)
}

// sealed: the same page with a checksum that fits it.
func sealed(b []byte) []byte { return joined(b[:12], wordsSum(b), b[16:]) }

// rawPage: a page told by its fields, right or wrong, with a checksum that fits.
func rawPage(kind, number, count, length int, rest []byte) []byte {
	return sealed(joined([]byte{0xd6, byte(kind)}, two(number), two(count), two(length), zeros(8), rest, zeros(1008-len(rest))))
}

func headOf(pages, used, records int) []byte {
	return rawPage(1, 0, 0, 8, joined(two(pages), two(used), four(uint32(records))))
}

// pageOf: with these records, whatever they are, as long as they fit.
func pageOf(number int, list ...api.Record) []byte {
	var content []byte
	for _, r := range list {
		content = append(content, bytesOf(r)...)
	}
	return rawPage(2, number, len(list), 1008, content)
}

// imageOf: a disk of so many sectors with these records in its used pages, and nothing else.
func imageOf(sectors int, used ...[]api.Record) []byte {
	p := wordsRoom(sectors)
	image := zeros(512 * sectors)
	copy(image[wordsHome(p, 0):], headOf(p, len(used), len(flat(used))))
	for i, list := range used {
		copy(image[wordsHome(p, i+1):], pageOf(i+1, list...))
	}
	return image
}

// turned: the image with another byte at a place.
func turned(image []byte, at int, to byte) []byte {
	b := bytes.Clone(image)
	b[at] = to
	return b
}

// laid: the image with other bytes from a place on.
func laid(image []byte, at int, more []byte) []byte {
	b := bytes.Clone(image)
	copy(b[at:at+len(more)], more)
	return b
}

func told(list []api.Record) string {
	var parts []string
	for _, r := range list {
		parts = append(parts, fmt.Sprintf("%d/%.9x/%.9x(%d)", r.Table, r.Key, r.Value, len(r.Value)))
	}
	return strings.Join(parts, " ")
}

func sameList(a, b []api.Record) bool {
	return slices.EqualFunc(a, b, func(x, y api.Record) bool {
		return x.Table == y.Table && bytes.Equal(x.Key, y.Key) && bytes.Equal(x.Value, y.Value)
	})
}

// answers: all that an image is asked for.
type answers struct {
	regions []api.Region
	records []api.Record
	clean   bool
	secrets []api.Key
	codes   [4]api.Errno
}

func ask(image []byte) (a answers) {
	a.regions, a.codes[0] = audit.Regions(image)
	a.records, a.codes[1] = audit.Records(image)
	a.clean, a.codes[2] = audit.Clean(image)
	a.secrets, a.codes[3] = audit.Secrets(image)
	return a
}

// isAudited: all answers of an image are those of the chapter's words; the code.
func isAudited(t *testing.T, what string, image []byte) api.Errno {
	t.Helper()
	a := ask(image)
	used, code := wordsRead(image)
	if want := [4]api.Errno{code, code, code, code}; a.codes != want {
		t.Errorf("P27.1: %s: Regions, Records, Clean, Secrets answer %v, want %d each", what, a.codes, code)
		return code
	}
	isTakenIfClean(t, what, image, a)
	if code != 0 {
		if len(a.regions)+len(a.records)+len(a.secrets) != 0 || a.clean {
			t.Errorf("P27.1: %s: beside error %d: %d regions, %d records, %d secrets, clean %v", what, code, len(a.regions), len(a.records), len(a.secrets), a.clean)
		}
		return code
	}
	if !sameList(a.records, flat(used)) {
		t.Errorf("P27.2: %s: Records %.200s, want %.200s", what, told(a.records), told(flat(used)))
	}
	kinds := wordsKinds(image, used)
	isFewest(t, what, a.regions, kinds)
	if want := bytes.Equal(image, wordsLayout(len(image)/512, flat(used))); a.clean != want {
		t.Errorf("P27.4: %s: Clean %v, want %v", what, a.clean, want)
	}
	isSecrets(t, what, image, a, wordsSecrets(image, kinds))
	if a.clean {
		isNothingLeft(t, what, a.regions)
	}
	return code
}

// isFewest: P27.3, and each byte is what the chapter's tables say.
func isFewest(t *testing.T, what string, list []api.Region, kinds []int) {
	t.Helper()
	lo := 0
	for i, r := range list {
		if r.Lo != lo || r.Hi <= lo || r.Hi > len(kinds) {
			t.Fatalf("P27.3: %s: region %d is %v behind %d, of %d bytes", what, i, r, lo, len(kinds))
		}
		if i > 0 && list[i-1].What == r.What {
			t.Errorf("P27.3: %s: neighbours with the same What: %v, %v", what, list[i-1], r)
		}
		for at := r.Lo; at < r.Hi; at++ {
			if kinds[at] != r.What {
				t.Errorf("P27.3: %s: byte %d stands in %v, want %d", what, at, r, kinds[at])
				return
			}
		}
		lo = r.Hi
	}
	if lo != len(kinds) {
		t.Errorf("P27.3: %s: the last region ends at %d of %d", what, lo, len(kinds))
	}
}

// isSecrets: P27.5, and P27.8's second sentence.
func isSecrets(t *testing.T, what string, image []byte, a answers, want []string) {
	t.Helper()
	var got []string
	var regions []byte
	for _, k := range a.secrets {
		got = append(got, string(k[:]))
	}
	for _, r := range a.regions {
		if r.What == secret {
			regions = append(regions, image[r.Lo:r.Hi]...)
		}
	}
	if !slices.Equal(got, want) {
		t.Errorf("P27.5: %s: Secrets %.8x, want %.8x", what, got, want)
	}
	if strings.Join(got, "") != string(regions) {
		t.Errorf("P27.8: %s: the Secret regions' bytes are not those of Secrets", what)
	}
}

// isNothingLeft: P27.8's first sentence.
func isNothingLeft(t *testing.T, what string, list []api.Region) {
	t.Helper()
	for _, r := range list {
		if r.What == logPart || r.What == stray {
			t.Errorf("P27.8: %s: a clean image has %v", what, r)
		}
	}
}

// isTakenIfClean: P27.7.
func isTakenIfClean(t *testing.T, what string, image []byte, a answers) {
	t.Helper()
	list, taken := takenAsItIs(image)
	if a.clean != taken {
		t.Errorf("P27.7: %s: Clean %v; that store.Open takes it as it is: %v", what, a.clean, taken)
	}
	if taken && !sameList(a.records, list) {
		t.Errorf("P27.7: %s: Records %.200s, All %.200s", what, told(a.records), told(list))
	}
}

// takenAsItIs: whether store.Open takes an image without a changing call of the disk, and that store's All.
func takenAsItIs(image []byte) ([]api.Record, bool) {
	d, e := sectors.Load(image)
	if e != 0 {
		return nil, false
	}
	was := d.Calls()
	s, err := store.Open(d)
	if err != nil || d.Calls() != was {
		return nil, false
	}
	return s.All(), true
}

// isCode: the words have answered as the chapter says of this very case.
func isCode(t *testing.T, what string, got, want api.Errno) {
	t.Helper()
	if got != want {
		t.Errorf("P27.1: %s: error %d, want %d", what, got, want)
	}
}

// isRegions: all of them, each as What:Hi.
func isRegions(t *testing.T, what string, image []byte, want string) {
	t.Helper()
	list, e := audit.Regions(image)
	got := regionsTold(list)
	if e != 0 || got != want {
		t.Errorf("P27.3: %s: %s, error %d, want %s", what, got, e, want)
	}
}

func regionsTold(list []api.Region) string {
	var parts []string
	for _, r := range list {
		name := "0 Blank Frame Public Secret LogPart Stray"
		parts = append(parts, fmt.Sprintf("%s:%d", strings.Fields(name)[r.What], r.Hi))
	}
	return strings.Join(parts, " ")
}

// wholeRoom: a list with its spare room.
func wholeRoom[T any](list []T) []T { return list[:cap(list)] }

// roomy: the same bytes, with room behind them that is not zero.
func roomy(b []byte) []byte { return joined(b, full(0x5a, 40))[:len(b)] }

// spoil: every byte is another one, spare room too.
func spoil(b []byte) {
	for i := range wholeRoom(b) {
		wholeRoom(b)[i] ^= 0xff
	}
}

// sample: so many bytes that hang on the seed alone, none of them 00.
func sample(size int, seed int64) []byte {
	r := rand.New(rand.NewSource(seed))
	b := make([]byte, size)
	for i := range b {
		b[i] = byte(1 + r.Intn(255))
	}
	return b
}
