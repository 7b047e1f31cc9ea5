package store_test

import (
	"fmt"
	"math/rand"
	"testing"

	"lethe/api"
	"lethe/sectors"
	"lethe/store"
)

// scene: a disk ahead of a change, the change, and the records ahead of it and behind it.
type scene struct {
	t        *testing.T
	image    []byte
	was, new []api.Record
	plan     []change
	do       func(d *sectors.Device) error
}

// commitScene: a Commit from one list to another.
func commitScene(t *testing.T, n int, was, wanted []api.Record) scene {
	do := func(d *sectors.Device) error {
		s, err := store.Open(d)
		if err != nil {
			return err
		}
		return changed(t, s, was, wanted).Commit()
	}
	return scene{t: t, image: wordsLayout(n, was), was: was, new: wanted, plan: planCommit(wordsRoom(n), was, wanted), do: do}
}

// loadScene: a Load over a disk that an Open would take; pending: the last steps of a Commit are still to be done.
func loadScene(t *testing.T, n int, was, wanted []api.Record, left int) scene {
	half := planCommit(wordsRoom(n), nil, was)
	d := diskWith(t, wordsLayout(n, nil))
	carriedOut(d, half[:len(half)-left])
	image := d.Image()
	plan, _ := planLoad(diskWith(t, image), wanted)
	do := func(d *sectors.Device) error {
		_, err := store.Load(d, wanted)
		return err
	}
	return scene{t: t, image: image, was: was, new: wanted, plan: plan, do: do}
}

// given: the images that the change leaves which gives up at that step, with all kinds of losses.
func (s scene) given(step int) [][]byte {
	var list [][]byte
	for _, loss := range losses(pendingAt(s.plan, step, 0)) {
		d := diskWith(s.t, s.image)
		isCode(s.t, "Arm", d.Arm(step, loss), api.OK)
		if err := s.do(d); api.Code(err) != api.ErrDown {
			s.t.Fatalf("step %d: %v", step, err)
		}
		list = append(list, d.Image())
	}
	return list
}

// crashed: the images that Opens leave which give up at each of their changing calls.
func (s scene) crashed(image []byte) [][]byte {
	plan := planOpen(diskWith(s.t, image))
	var list [][]byte
	for step := 1; step <= len(plan); step++ {
		for _, loss := range someLosses(pendingAt(plan, step, 0)) {
			d := diskWith(s.t, image)
			isCode(s.t, "Arm", d.Arm(step, loss), api.OK)
			_, err := store.Open(d)
			isLower(s.t, "crashes", err, "Open", "Open", api.ErrDown)
			list = append(list, d.Image())
		}
	}
	return list
}

// isWhole: what is opened has the records ahead of the change, or those behind it, and its image says so.
func (s scene) isWhole(what string, image []byte) (isNew bool) {
	s.t.Helper()
	d := diskWith(s.t, image)
	o, err := store.Open(d)
	if err != nil {
		s.t.Errorf("%s: Open: %v", what, err)
		return false
	}
	list := o.All()
	isNew = sameList(list, s.new)
	if !isNew && !sameList(list, s.was) {
		s.t.Errorf("%s: neither the old records nor the new ones: %s", what, told(list))
	}
	isLaidOut(s.t, what, d, o, list)
	return isNew
}

// everywhere: the change gives up at each of its calls, and so do Opens behind it, one behind the other.
func (s scene) everywhere(what string, deep int) {
	s.t.Helper()
	found := [2]int{}
	for step := 1; step <= len(s.plan); step++ {
		seen := map[string]int{}
		now := s.given(step)
		for k := range deep + 1 {
			var next [][]byte
			for _, image := range now {
				if seen[string(image)] > 0 {
					continue
				}
				seen[string(image)] = 1
				if s.isWhole(fmt.Sprintf("%s, step %d, %d Opens gave up", what, step, k), image) {
					found[1]++
				} else {
					found[0]++
				}
				if k < deep {
					next = append(next, s.crashed(image)...)
				}
			}
			now = next
		}
		if s.t.Failed() {
			return
		}
	}
	if found[0] == 0 || found[1] == 0 {
		s.t.Errorf("%s: %d times the old records, %d times the new ones", what, found[0], found[1])
	}
	d := diskWith(s.t, s.image)
	if err := s.do(d); err != nil || !s.isWhole(what, d.Image()) {
		s.t.Errorf("%s: %v, or not the new records", what, err)
	}
}

// P12.13: Commits of one page, of some, of all.
func TestCommitWholeOrNotAtAll(t *testing.T) {
	a, b, c := rec(1, "a", "x"), sized("b", 900), sized("c", 905)
	commitScene(t, 9, recs(a), recs(rec(1, "a", "y"))).everywhere("a value", 3)
	commitScene(t, 14, recs(a), recs(a, b, c)).everywhere("more", 1)
	commitScene(t, 13, recs(a, b, c), nil).everywhere("less", 1)
}

// P12.13: Load over a disk that an Open would take, one with a change in its log too.
func TestLoadWholeOrNotAtAll(t *testing.T) {
	a, b, c := rec(1, "a", "x"), sized("b", 900), sized("c", 905)
	loadScene(t, 13, recs(a), recs(b, c), 0).everywhere("Load", 1)
	loadScene(t, 9, recs(a), nil, 0).everywhere("Load of none", 2)
	commit := planCommit(2, nil, recs(a))
	for left := range len(commit) - 6 { // the marker is flushed
		loadScene(t, 9, recs(a), recs(b), left).everywhere(fmt.Sprintf("Load with %d steps left", left), 1)
	}
}

func drawnLoss(r *rand.Rand) api.Loss {
	return api.Loss{Keep: []uint64{r.Uint64() & r.Uint64(), r.Uint64()}, Torn: r.Intn(12) - 1, Offset: r.Intn(514)}
}

// P12.12, P12.13, P12.14: long drawn runs: transactions, crashes in them, in Loads and in the Opens behind them; the records are always those of a whole number of changes.
func TestDrawnRuns(t *testing.T) {
	r := rand.New(rand.NewSource(6))
	for run := range 40 {
		n := []int{9, 13, 22, 41, 60}[run%5]
		list := drawnList(r, 10, n)
		d, s := loaded(t, n, list...)
		for range 50 {
			wanted, err := drawnChange(t, r, d, s, list)
			for api.Code(err) == api.ErrDown {
				isCode(t, "Up", d.Up(), api.OK)
				isCode(t, "Arm", d.Arm(r.Intn(40), drawnLoss(r)), api.OK)
				if s, err = store.Open(d); err == nil && sameList(s.All(), list) {
					wanted = list
				}
			}
			if err != nil {
				t.Fatalf("run %d: %v", run, err)
			}
			isCode(t, "Arm", d.Arm(0, api.Loss{}), api.OK)
			list = wanted
			isLaidOut(t, fmt.Sprintf("run %d", run), d, s, list)
			if t.Failed() {
				return
			}
		}
	}
}

// drawnChange: a transaction of drawn puts and deletes on a disk that may give up; the records that it leads to.
func drawnChange(t *testing.T, r *rand.Rand, d *sectors.Device, s *store.Store, list []api.Record) ([]api.Record, error) {
	t.Helper()
	x := begun(t, s)
	seen := list
	for range r.Intn(6) {
		seen = drawnStep(t, r, x, seen)
	}
	isCode(t, "Arm", d.Arm(r.Intn(60), drawnLoss(r)), api.OK)
	if r.Intn(6) == 0 {
		isCode(t, "Abort", x.Abort(), api.OK)
		return list, nil
	}
	err := x.Commit()
	if len(wordsSplit(seen)) > wordsRoom(d.Sectors())-1 {
		isFault(t, "drawn", err, "Commit", 0, api.ErrFull)
		return list, nil
	}
	return seen, err
}

// drawnStep: one Put or Delete, of a place that is there or not; what is seen behind it.
func drawnStep(t *testing.T, r *rand.Rand, x *store.Tx, seen []api.Record) []api.Record {
	t.Helper()
	more := drawnRecord(r)
	if len(seen) > 0 && r.Intn(2) == 0 {
		k := seen[r.Intn(len(seen))]
		more.Table, more.Key = k.Table, k.Key
	}
	if r.Intn(2) == 0 {
		isCode(t, "Put", x.Put(more.Table, more.Key, more.Value), api.OK)
		return wordsPut(seen, more)
	}
	isCode(t, "Delete", x.Delete(more.Table, more.Key), wordsMissing(seen, more))
	return wordsDelete(seen, more.Table, more.Key)
}
