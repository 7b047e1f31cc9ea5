package audit_test

import (
	"bytes"
	"crypto/sha256"
	"fmt"
	"math/rand"
	"slices"
	"testing"

	"lethe/api"
	"lethe/audit"
	"lethe/client"
	"lethe/curve"
	"lethe/sectors"
	"lethe/store"
)

func newDisk(t *testing.T, n int) *sectors.Device {
	t.Helper()
	d, e := sectors.New(n)
	isCode(t, "a disk", e, 0)
	return d
}

// isLeft: an image that a store or a client has left, which holds these records.
func isLeft(t *testing.T, what string, image []byte, list []api.Record) {
	t.Helper()
	isClean(t, what, image, true)
	if got, _ := audit.Records(image); !sameList(got, list) {
		t.Errorf("P27.2: %s: Records %.200s, want %.200s", what, told(got), told(list))
	}
}

// P27.2, P27.7: what a store leaves behind each of its transactions, and what a disk that gave up within one leaves.
func TestImagesOfAStore(t *testing.T) {
	r := rand.New(rand.NewSource(12))
	codes := map[api.Errno]int{}
	for _, n := range []int{9, 13, 30, 61} {
		d := newDisk(t, n)
		s, err := store.Format(d)
		if err != nil {
			t.Fatal(err)
		}
		isLeft(t, "Format", d.Image(), nil)
		for range 60 {
			changeDrawn(t, r, s)
			isLeft(t, "Commit", d.Image(), s.All())
			isCode(t, "Arm", d.Arm(1+r.Intn(30), drawnLoss(r)), 0)
			changeDrawn(t, r, s)
			if !d.Down() {
				isCode(t, "Arm", d.Arm(0, api.Loss{}), 0)
				continue
			}
			codes[isAudited(t, "a disk that gave up", d.Image())]++
			isCode(t, "Up", d.Up(), 0)
			if s, err = store.Open(d); err != nil {
				t.Fatal(err)
			}
			isLeft(t, "Open", d.Image(), s.All())
		}
	}
	if codes[0] < 50 || codes[badSum] < 5 {
		t.Errorf("behind disks that gave up: %v", codes)
	}
}

// changeDrawn: a transaction of some puts and deletes; one that has no room changes nothing.
func changeDrawn(t *testing.T, r *rand.Rand, s *store.Store) {
	t.Helper()
	x, e := s.Begin()
	isCode(t, "Begin", e, 0)
	for range 1 + r.Intn(4) {
		k := drawnRecord(r)
		if r.Intn(3) == 0 {
			x.Delete(k.Table, k.Key)
		} else {
			isCode(t, "Put", x.Put(k.Table, k.Key, k.Value), 0)
		}
	}
	if all := s.All(); len(all) > 0 && r.Intn(2) == 0 {
		k := all[r.Intn(len(all))]
		x.Delete(k.Table, k.Key)
	}
	x.Commit()
}

func drawnLoss(r *rand.Rand) api.Loss {
	return api.Loss{Keep: []uint64{r.Uint64() & r.Uint64(), r.Uint64()}, Torn: r.Intn(12) - 1, Offset: r.Intn(514)}
}

// draw: number n of draws that are all unlike.
func draw(n int) []byte {
	d := sha256.Sum256(four(uint32(n)))
	return d[:]
}

// user: a client, its disk, and every secret that its images have ever held.
type user struct {
	t     *testing.T
	d     *sectors.Device
	c     *client.Client
	known map[api.Key]int
}

func newUser(t *testing.T, n int) *user {
	t.Helper()
	d := newDisk(t, 61)
	c, err := client.Create(d, api.Limits{Peers: 2, Prekeys: 4, Skip: 8, Skips: 16, Outbox: 4, Counter: 1000}, draw(n))
	if err != nil {
		t.Fatal(err)
	}
	u := &user{t, d, c, map[api.Key]int{}}
	u.look("Create")
	return u
}

// look: behind a call the image is clean, and a secret stands in it just as often as it lives.
func (u *user) look(what string) []api.Key {
	u.t.Helper()
	image := u.d.Image()
	list, err := u.c.Records()
	if err != nil {
		u.t.Fatal(what, err)
	}
	isLeft(u.t, what, image, list)
	keys, _ := audit.Secrets(image)
	for _, k := range keys {
		u.known[k] = 1
	}
	for k := range u.known {
		lives := 0
		for _, x := range keys {
			if x == k {
				lives++
			}
		}
		if places := audit.Find(image, k[:]); len(places) != lives {
			u.t.Errorf("P27.6: %s: a secret stands at %v, and lives %d times", what, places, lives)
		}
	}
	return keys
}

func must[T any](t *testing.T) func(x T, err error) T {
	t.Helper()
	return func(x T, err error) T {
		t.Helper()
		if err != nil {
			t.Fatal(err)
		}
		return x
	}
}

// P27.2, P27.5, P27.7, P27.8: two clients talk; their images are told behind each call.
func TestImagesOfClients(t *testing.T) {
	a, b := newUser(t, 1), newUser(t, 2)
	own, e := curve.NewPair(draw(2))
	prekey, f := curve.NewPair(draw(3))
	if e != 0 || f != 0 {
		t.Fatal(e, f)
	}
	bytesOf := must[[]byte](t)
	bundles := must[[][]byte](t)(b.c.Publish(draw(3), draw(4)))
	if keys := b.look("Publish"); len(keys) != 3 || keys[0] != own.Priv || keys[1] != prekey.Priv {
		t.Errorf("P27.5: identity and prekeys: %x", keys)
	}
	first := bytesOf(a.c.Initiate("bob", bundles[0], draw(5), draw(6), []byte("one"), nil))
	if keys := a.look("Initiate"); len(keys) != 4 {
		t.Errorf("P27.5: identity, root, private and sending key: %d", len(keys))
	}
	var packets [][]byte
	for _, text := range []string{"two", "three", "four"} {
		_, packet, err := a.c.Send("bob", []byte(text), nil)
		if err != nil {
			t.Fatal(err)
		}
		packets = append(packets, packet)
		a.look("Send")
	}
	bytesOf(b.c.Accept("alice", packets[2], draw(7), nil))
	keys := b.look("Accept")
	if len(keys) != 2+4+3 || slices.Contains(keys, prekey.Priv) {
		t.Errorf("P27.5: identity, one prekey, four of the session, three skipped keys: %d", len(keys))
	}
	if at := audit.Find(b.d.Image(), prekey.Priv[:]); len(at) != 0 {
		t.Errorf("P27.6: a prekey that was used stands at %v", at)
	}
	bytesOf(b.c.Receive("alice", packets[0], draw(8), nil))
	if keys := b.look("Receive"); len(keys) != 2+4+2 {
		t.Errorf("P27.5: two skipped keys: %d", len(keys))
	}
	bytesOf(b.c.Receive("alice", first, draw(9), nil))
	b.look("Receive")
	_, answer, err := b.c.Send("alice", []byte("yes"), nil)
	if err != nil {
		t.Fatal(err)
	}
	b.look("Send")
	bytesOf(a.c.Receive("bob", answer, draw(10), nil))
	a.look("Receive")
	if err := a.c.Ack("bob", 0); err != nil {
		t.Fatal(err)
	}
	a.look("Ack")
	for _, u := range []*user{a, b} {
		name := map[*user]string{a: "bob", b: "alice"}[u]
		if err := u.c.Forget(name); err != nil {
			t.Fatal(err)
		}
		u.look("Forget")
	}
	if keys := a.look("at the end"); len(keys) != 1 || !bytes.Equal(a.d.Image(), newUser(t, 1).d.Image()) {
		t.Errorf("P27.5: behind Forget: %d secrets", len(keys))
	}
	if len(a.known) < 8 || len(b.known) < 10 {
		t.Errorf("only %d and %d secrets were seen", len(a.known), len(b.known))
	}
}

// P27.5: secrets in the order in which they stand, the same one as often as it stands there, zeros too.
func TestSecretsInOrder(t *testing.T) {
	k := func(c byte) string { return string(full(c, 32)) }
	list := recs(rec(2, "a", k(9)+k(1)), rec(2, "b", k(8)+k(9)), rec(3, "a", k(0)+k(0)), rec(4, "s", stateBytes(1, 1, 0, 0, 0, 0, false)), rec(4, "t", k(7)+k(6)), rec(5, "a", k(5)), rec(5, "b", k(9)), rec(5, "c", k(0)), rec(5, "d", k(4)+"x"), rec(6, "a", k(3)))
	names := map[byte]string{0xa3: "r", 0xa4: "p", 0xa7: "s", 0xa8: "v"} // of the state: Root, Priv, SendKey, RecvKey
	for _, used := range [][][]api.Record{{list}, {list[:3], list[3:]}, {list[:1], list[1:2], list[2:9], list[9:]}} {
		image := imageOf(40, used...)
		isCode(t, "secrets", isAudited(t, "secrets", image), 0)
		keys, _ := audit.Secrets(image)
		got := ""
		for _, key := range keys {
			if name, known := names[key[0]]; known {
				got += name
			} else {
				got += fmt.Sprint(key[0])
			}
		}
		if got != "980rpsv590" {
			t.Errorf("P27.5: %s", got)
		}
	}
}
