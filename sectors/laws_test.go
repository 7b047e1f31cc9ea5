package sectors_test

import (
	"bytes"
	"fmt"
	"math/rand"
	"testing"

	"lethe/api"
	"lethe/sectors"
)

// deed: a call of a device, and the same of its model.
type deed struct {
	name  string
	do    func(d *sectors.Device) api.Errno
	model func(m *model) api.Errno
}

func writing(i int, b []byte) deed {
	return deed{fmt.Sprintf("Write(%d, %d bytes)", i, len(b)),
		func(d *sectors.Device) api.Errno { return d.Write(i, b) },
		func(m *model) api.Errno { return m.write(i, b) }}
}

func flushing() deed {
	return deed{"Flush()", (*sectors.Device).Flush, (*model).flush}
}

func arming(step int, loss api.Loss) deed {
	return deed{fmt.Sprintf("Arm(%d, %v)", step, loss),
		func(d *sectors.Device) api.Errno { return d.Arm(step, loss) },
		func(m *model) api.Errno { return m.arm(step, loss) }}
}

func crashing(loss api.Loss) deed {
	return deed{fmt.Sprintf("Crash(%v)", loss),
		func(d *sectors.Device) api.Errno { return d.Crash(loss) },
		func(m *model) api.Errno { return m.crash(loss) }}
}

func rising() deed {
	return deed{"Up()", (*sectors.Device).Up, (*model).up}
}

// done: the deed's answer is the model's.
func done(t *testing.T, what string, d *sectors.Device, m *model, x deed) {
	t.Helper()
	if got, want := x.do(d), x.model(m); got != want {
		t.Fatalf("%s: %s: error %d, want %d", what, x.name, got, want)
	}
}

// P8.1 to P8.10: every run of up to five calls out of a few, held against the model.
func TestEveryShortRun(t *testing.T) {
	deeds := []deed{
		writing(0, someBytes(512)),
		writing(1, full('b')),
		writing(1, full('c')),
		writing(2, full('d')),
		flushing(),
		arming(0, api.Loss{Keep: []uint64{1}}),
		arming(1, api.Loss{Keep: []uint64{2}, Torn: 0, Offset: 100}),
		arming(2, api.Loss{Keep: []uint64{5}, Torn: 1, Offset: 2}),
		crashing(api.Loss{Keep: []uint64{1}, Torn: 1, Offset: 300}),
		rising(),
	}
	image := someBytes(1024)
	runs := 1
	for length := 1; length <= 5; length++ {
		runs *= len(deeds)
		for run := range runs {
			d, m := loaded(t, image), newModel(image)
			what := ""
			for n, k := run, 0; k < length; n, k = n/len(deeds), k+1 {
				x := deeds[n%len(deeds)]
				what += x.name + " "
				done(t, what, d, m, x)
			}
			isModel(t, what, d, m)
			if t.Failed() {
				return
			}
		}
	}
}

// someLoss: of any kind, with a Keep around as many bits as are pending.
func someLoss(r *rand.Rand, pending int) api.Loss {
	keep := make([]uint64, r.Intn(pending/64+3))
	for j := range keep {
		keep[j] = r.Uint64() & r.Uint64()
	}
	return api.Loss{Keep: keep, Torn: r.Intn(pending+4) - 2, Offset: r.Intn(530) - 9}
}

func someDeed(r *rand.Rand, m *model) deed {
	switch k := r.Intn(100); {
	case k < 70:
		return writing(r.Intn(m.sectors()), drawn(r, 512))
	case k < 74:
		return writing(r.Intn(m.sectors()+4)-2, drawn(r, 510+r.Intn(5)))
	case k < 77:
		return flushing()
	case k < 82:
		return arming(r.Intn(100)-3, someLoss(r, len(m.pending)+40))
	case k < 85:
		return crashing(someLoss(r, len(m.pending)))
	case k < 86 && !m.down:
		return rising()
	case k < 95 && m.down:
		return rising()
	}
	return writing(0, drawn(r, 512))
}

// P8.1 to P8.10: long runs of drawn calls, held against the model behind each.
func TestLongRuns(t *testing.T) {
	for _, n := range []int{1, 2, 3, 7} {
		r := rand.New(rand.NewSource(int64(n)))
		image := drawn(r, 512*n)
		d, m := loaded(t, image), newModel(image)
		for k := range 4000 {
			what := fmt.Sprintf("%d sectors, call %d", n, k)
			done(t, what, d, m, someDeed(r, m))
			isModel(t, what, d, m)
			if t.Failed() {
				return
			}
		}
	}
}

// P8.11: behind any crash a sector without pending writes is as it was; each byte of another one is that of the image ahead or of a pending write of its sector; and all of a sector of which none was torn are those of one of them.
func TestFlushedIsFlushed(t *testing.T) {
	r := rand.New(rand.NewSource(11))
	for round := range 2000 {
		n := 1 + r.Intn(4)
		ahead := drawn(r, 512*n)
		d := loaded(t, ahead)
		if r.Intn(2) == 0 { // the image ahead is one that was flushed
			isOK(t, "flushed", d.Write(0, full('f')), d.Flush())
			ahead = joined(full('f'), ahead[512:])
		}
		for range r.Intn(6) {
			isOK(t, "Write", d.Write(r.Intn(n), drawn(r, 512)))
		}
		pending := d.Cache()
		loss := someLoss(r, len(pending))
		if r.Intn(2) == 0 {
			isOK(t, "Crash", d.Crash(loss))
		} else {
			isOK(t, "Arm", d.Arm(1, loss))
			isCode(t, "Flush", d.Flush(), api.ErrDown)
		}
		for i := range n {
			tornHere := loss.Torn >= 0 && loss.Torn < len(pending) && pending[loss.Torn].Sector == i
			isOneOf(t, fmt.Sprintf("round %d, sector %d", round, i), sector(d.Image(), i), sources(ahead, pending, i), tornHere)
		}
	}
}

func sector(image []byte, i int) []byte { return image[512*i : 512*i+512] }

// sources: what may stand in a sector: the image's bytes, and those of its pending writes.
func sources(ahead []byte, pending []api.Pending, i int) [][]byte {
	all := [][]byte{sector(ahead, i)}
	for _, w := range pending {
		if w.Sector == i {
			all = append(all, w.Bytes)
		}
	}
	return all
}

// isOneOf: the bytes are those of one of the sources, or, mixed, each that of one.
func isOneOf(t *testing.T, what string, b []byte, all [][]byte, mixed bool) {
	t.Helper()
	for _, s := range all {
		if bytes.Equal(b, s) {
			return
		}
	}
	if !mixed {
		t.Fatalf("%s: other bytes than those of the image ahead and of each of its pending writes", what)
	}
	for o, c := range b {
		found := false
		for _, s := range all {
			found = found || s[o] == c
		}
		if !found {
			t.Fatalf("%s: byte %d is of none", what, o)
		}
	}
}

// P8.12: a device that runs without pending writes and isn't armed, and Load of its Image, answer the same from then on, but for Calls.
func TestTheImageIsAll(t *testing.T) {
	for seed := range int64(40) {
		r := rand.New(rand.NewSource(seed))
		image := drawn(r, 512*(1+r.Intn(4)))
		d, m := loaded(t, image), newModel(image)
		for range 60 {
			done(t, "ahead", d, m, someDeed(r, m))
		}
		isOK(t, "Up", d.Up(), d.Flush())
		m.up()
		m.flush()
		twin := loaded(t, d.Image())
		calls := d.Calls()
		for k := range 60 {
			x := someDeed(r, m)
			x.model(m)
			if a, b := x.do(d), x.do(twin); a != b {
				t.Fatalf("seed %d, call %d, %s: errors %d and %d", seed, k, x.name, a, b)
			}
			told := take(twin)
			told.calls += calls
			isAs(t, fmt.Sprintf("seed %d, call %d", seed, k), d, told)
			for i := -1; i <= d.Sectors(); i++ {
				a, ea := d.Read(i)
				b, eb := twin.Read(i)
				if ea != eb || !bytes.Equal(a, b) {
					t.Fatalf("seed %d, call %d: Read(%d) is not the same", seed, k, i)
				}
			}
		}
	}
}
