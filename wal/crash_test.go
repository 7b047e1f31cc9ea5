package wal_test

import (
	"bytes"
	"fmt"
	"math/rand"
	"testing"

	"lethe/api"
	"lethe/sectors"
	"lethe/wal"
)

// scene: a disk with homes, a Commit of it, and what the homes are ahead of it and behind it.
type scene struct {
	t        *testing.T
	image    []byte
	pages    []api.PageWrite
	old, new []byte
}

func sceneOf(t *testing.T, r *rand.Rand, n int, numbers ...int) scene {
	s := scene{t: t, image: someHomes(r, n)}
	s.old = homes(loaded(t, s.image))
	s.new = joined(s.old)
	for _, k := range numbers {
		b := drawn(r, 1024)
		s.pages = append(s.pages, put(k, b))
		copy(s.new[1024*k:], b)
	}
	return s
}

// markerStep: the number of the changing call that writes the marker; its Flush is the next one.
func (s scene) markerStep() int { return 2*len(s.pages) + 2 }

// steps: how many changing calls the Commit has.
func (s scene) steps() int { return 6*len(s.pages) + 8 }

// given: the disk behind the Commit that gave up at that step with that loss, up again.
func (s scene) given(step int, loss api.Loss) *sectors.Device {
	d := loaded(s.t, s.image)
	l := opened(s.t, d, false)
	isOK(s.t, "Arm", d.Arm(step, loss))
	err := l.Commit(s.pages...)
	isFault(s.t, "Commit", err, "Commit", 0, api.ErrDown)
	isOK(s.t, "Up", d.Up())
	return d
}

// isWhole: P9.8, P9.9: behind an Open that answers nil all homes are as they were, or all are as wanted; only those that may be.
func (s scene) isWhole(what string, image []byte, mayBeOld, mayBeNew bool) {
	s.t.Helper()
	d := loaded(s.t, image)
	if _, _, err := wal.Open(d); err != nil {
		s.t.Errorf("%s: Open: %v", what, err)
	}
	got := homes(d)
	if !(mayBeOld && bytes.Equal(got, s.old) || mayBeNew && bytes.Equal(got, s.new)) {
		s.t.Errorf("%s: homes that may not be (as they were may be: %t, as wanted: %t)", what, mayBeOld, mayBeNew)
	}
	isClean(s.t, what, d)
	end := 512 * (4*wordsRoom(d.Sectors()) + 1)
	if !bytes.Equal(d.Image()[end:], s.image[end:]) {
		s.t.Errorf("%s: what is beyond the homes is another one", what)
	}
	opened(s.t, d, false)
}

// crashed: the images that Opens leave which give up at each of their changing calls, with all kinds of losses.
func (s scene) crashed(image []byte) [][]byte {
	plan, _, _ := planOpen(loaded(s.t, image))
	var list [][]byte
	for step := 1; step <= len(plan); step++ {
		for _, loss := range losses(pendingAt(plan, step, 0)) {
			d := loaded(s.t, image)
			isOK(s.t, "Arm", d.Arm(step, loss))
			isNotOpened(s.t, "crashes", d, api.ErrDown)
			list = append(list, d.Image())
		}
	}
	return list
}

// P9.8: a Commit that gives up at each of its changing calls, with nothing kept, all kept, each single write kept and torn ones, and Opens behind it that give up likewise, again and again, up to one that answers.
func TestWholeOrNotAtAll(t *testing.T) {
	r := rand.New(rand.NewSource(9))
	for _, c := range []struct {
		sectors int
		numbers []int
		deep    int // how many Opens give up, one behind the other
	}{{5, []int{0}, 3}, {14, []int{1}, 2}, {13, []int{2, 0}, 1}} {
		s := sceneOf(t, r, c.sectors, c.numbers...)
		plan := planCommit(wordsRoom(c.sectors), s.pages)
		for step := 1; step <= s.steps(); step++ {
			mayBeOld, mayBeNew := step <= s.markerStep()+1, step >= s.markerStep()
			seen := map[string]int{}
			var now [][]byte
			for _, loss := range losses(pendingAt(plan, step, 0)) {
				now = append(now, s.given(step, loss).Image())
			}
			for deep := 0; deep <= c.deep; deep++ {
				var next [][]byte
				for _, image := range now {
					if seen[string(image)] > 0 {
						continue
					}
					seen[string(image)] = 1
					what := fmt.Sprintf("%d sectors, step %d, %d Opens gave up", c.sectors, step, deep)
					s.isWhole(what, image, mayBeOld, mayBeNew)
					if deep < c.deep {
						next = append(next, s.crashed(image)...)
					}
				}
				now = next
			}
			if t.Failed() {
				return
			}
		}
	}
}

// P9.8: once an Open has seen the marker it stands till the pages are home: whatever later Opens meet, there is no way back.
func TestNoWayBack(t *testing.T) {
	r := rand.New(rand.NewSource(10))
	s := sceneOf(t, r, 13, 0, 2)
	d := s.given(s.markerStep()+1, api.Loss{Keep: []uint64{1}, Torn: -1})
	kept := d.Image()
	for _, image := range s.crashed(kept) {
		s.isWhole("seen once", image, false, true)
	}
	d = s.given(s.markerStep()+1, api.Loss{Torn: -1})
	for _, image := range s.crashed(d.Image()) {
		s.isWhole("not kept", image, true, false)
	}
}

// P9.8: the marker torn at each of its bytes counts only as a whole; as it is taken away, only till its last byte is written.
func TestTornMarker(t *testing.T) {
	r := rand.New(rand.NewSource(11))
	s := sceneOf(t, r, 41, 9, 0, 7)
	written, off := s.markerStep(), s.markerStep()+2*len(s.pages)+3
	for at := 0; at <= 513; at++ {
		what := fmt.Sprintf("torn at %d", at)
		for _, step := range []int{written, written + 1} {
			d := s.given(step, api.Loss{Torn: 0, Offset: at})
			s.isWhole(what+", written", d.Image(), at < 512, at >= 512)
			opened(t, d, at >= 512)
		}
		for _, step := range []int{off, off + 1} {
			d := s.given(step, api.Loss{Torn: 0, Offset: at})
			s.isWhole(what+", taken away", d.Image(), false, true)
			opened(t, d, at < 512)
		}
		d := s.given(s.steps(), api.Loss{Torn: 0, Offset: at})
		s.isWhole(what+", wiped", d.Image(), false, true)
		opened(t, d, false)
	}
}

// P9.8, P9.4: Clear of a disk in the midst of a Commit leaves the homes as they are; wherever it gives up itself, a marker that it has taken away doesn't come back.
func TestClearGivesUp(t *testing.T) {
	r := rand.New(rand.NewSource(12))
	s := sceneOf(t, r, 15, 1, 2)
	image := s.given(s.markerStep()+2, api.Loss{Torn: -1}).Image()
	plan := planClear(loaded(t, image))
	for step := 3; step <= len(plan); step++ {
		for _, loss := range losses(pendingAt(plan, step, 0)) {
			d := loaded(t, image)
			isOK(t, "Arm", d.Arm(step, loss))
			isFault(t, "Clear", wal.Clear(d), "Clear", 0, api.ErrDown)
			isOK(t, "Up", d.Up())
			twice := loaded(t, d.Image())
			opened(t, d, false)
			if !bytes.Equal(homes(d), s.old) {
				t.Errorf("step %d: other homes", step)
			}
			isFault(t, "Clear", wal.Clear(twice), "Clear", 0, api.OK)
			isCleared(t, "Clear twice", twice, s.image)
		}
	}
}

// P9.8, P9.10: long drawn runs: Commits, crashes in them and in the Opens behind them; at each time the homes are those of a whole number of Commits.
func TestDrawnRuns(t *testing.T) {
	r := rand.New(rand.NewSource(13))
	for run := range 60 {
		n := []int{5, 9, 13, 22, 40}[run%5]
		p := wordsRoom(n)
		d := loaded(t, someHomes(r, n))
		l := opened(t, d, false)
		now := homes(d)
		for range 40 {
			s := scene{old: now, new: joined(now)}
			for _, k := range r.Perm(p)[:1+r.Intn(p)] {
				b := drawn(r, 1024)
				s.pages = append(s.pages, put(k, b))
				copy(s.new[1024*k:], b)
			}
			step := r.Intn(s.steps() + 5)
			isOK(t, "Arm", d.Arm(step, drawnLoss(r)))
			err := l.Commit(s.pages...)
			crashed := step > 0 && step <= s.steps()
			if (err != nil) != crashed || d.Down() != crashed {
				t.Fatalf("run %d: step %d of %d: %v", run, step, s.steps(), err)
			}
			for err != nil {
				isOK(t, "Up", d.Up(), d.Arm(r.Intn(30), drawnLoss(r)))
				l, _, err = wal.Open(d)
			}
			isOK(t, "Arm", d.Arm(0, api.Loss{}))
			now = homes(d)
			isNew := bytes.Equal(now, s.new)
			if !isNew && (!bytes.Equal(now, s.old) || !crashed || step > s.markerStep()+1) || isNew && crashed && step < s.markerStep() {
				t.Fatalf("run %d: step %d of %d: homes that may not be", run, step, s.steps())
			}
			isClean(t, "drawn", d)
			for k := range p {
				isRead(t, "drawn", l, k, now[1024*k:1024*k+1024])
			}
		}
	}
}

func drawnLoss(r *rand.Rand) api.Loss {
	return api.Loss{Keep: []uint64{r.Uint64() & r.Uint64(), r.Uint64()}, Torn: r.Intn(12) - 1, Offset: r.Intn(514)}
}
