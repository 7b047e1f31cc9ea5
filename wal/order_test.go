package wal_test

import (
	"fmt"
	"math/rand"
	"testing"

	"lethe/api"
	"lethe/sectors"
	"lethe/wal"
)

// isPlanned: a call does to a disk just what the plan says, in its order: with the disk giving up at each changing call, and with all kinds of losses, it leaves what the plan's own calls leave.
func isPlanned(t *testing.T, what, name string, disk func() *sectors.Device, call func(*sectors.Device) error, plan []change, code api.Errno) {
	t.Helper()
	d, twin := disk(), disk()
	isFault(t, what, call(d), name, 0, code)
	isOK(t, what, carriedOut(twin, plan))
	isAs(t, what, d, take(twin))
	ahead := len(disk().Cache())
	for step := 1; step <= len(plan); step++ {
		for _, loss := range losses(pendingAt(plan, step, ahead)) {
			d, twin := disk(), disk()
			isOK(t, what, d.Arm(step, loss), twin.Arm(step, loss))
			where := fmt.Sprintf("%s, step %d, keep %x, torn %d at %d", what, step, loss.Keep[:min(1, len(loss.Keep))], loss.Torn, loss.Offset)
			isFault(t, where, call(d), name, 0, api.ErrDown)
			carriedOut(twin, plan)
			isAs(t, where, d, take(twin))
			if t.Failed() {
				return
			}
		}
	}
}

func open(d *sectors.Device) error {
	_, _, err := wal.Open(d)
	return err
}

// P9.1, P9.3, P9.4: the changing calls of Open and Clear, of disks with all kinds of logs, with and without pending writes.
func TestOrderOfOpenAndClear(t *testing.T) {
	r := rand.New(rand.NewSource(6))
	slots := [][]byte{make([]byte, 6*512), drawn(r, 6*512), joined(make([]byte, 512), drawn(r, 512), make([]byte, 4*512)), joined(drawn(r, 3*512), make([]byte, 2*512), drawn(r, 512))}
	firsts := [][]byte{sector(nil), sector(map[int]byte{0: 5, 511: 1}), sector(map[int]byte{0: 2, 511: 1}), sector(map[int]byte{0: 7, 511: 1}),
		withLast(drawn(r, 512), 0), withLast(drawn(r, 512), 1), sector(map[int]byte{511: 9}), sector(map[int]byte{0: 4})}
	for i, first := range firsts {
		for j, slot := range slots {
			for _, pending := range []int{0, 1, 3} {
				image := joined(first, slot, drawn(r, 6*512), make([]byte, 512), drawn(r, 512))
				late := drawn(r, 3*512)
				disk := func() *sectors.Device {
					d := loaded(t, image)
					for k := range pending {
						d.Write(5+2*k, late[512*k:512*k+512])
					}
					return d
				}
				what := fmt.Sprintf("first %d, slots %d, %d pending", i, j, pending)
				plan, _, code := planOpen(disk())
				isPlanned(t, "Open, "+what, "Open", disk, open, plan, code)
				isPlanned(t, "Clear, "+what, "Clear", disk, wal.Clear, planClear(disk()), api.OK)
			}
		}
	}
}

// P9.1, P9.7: the changing calls of Commit, of one page, of two, of all, in all orders.
func TestOrderOfCommit(t *testing.T) {
	r := rand.New(rand.NewSource(7))
	image := someHomes(r, 15)
	for _, order := range [][]int{{0}, {1}, {2}, {0, 1}, {1, 0}, {2, 0}, {1, 2}, {0, 1, 2}, {0, 2, 1}, {1, 0, 2}, {1, 2, 0}, {2, 0, 1}, {2, 1, 0}} {
		var pages []api.PageWrite
		for _, n := range order {
			pages = append(pages, put(n, drawn(r, 1024)))
		}
		commit := func(d *sectors.Device) error { return opened(t, d, false).Commit(pages...) }
		disk := func() *sectors.Device { return loaded(t, image) }
		isPlanned(t, fmt.Sprintf("Commit of %d", order), "Commit", disk, commit, planCommit(3, pages), api.OK)
	}
}

// P9.7, P9.3: the same on a disk with more pages than a byte or a number of bits has, at some of its steps.
func TestOrderOfGreatCommit(t *testing.T) {
	r := rand.New(rand.NewSource(8))
	image := someHomes(r, 1004)
	var pages []api.PageWrite
	for _, n := range []int{249, 7, 8, 0, 63, 64, 127, 128, 100} {
		pages = append(pages, put(n, drawn(r, 1024)))
	}
	plan := planCommit(250, pages)
	for step := 1; step <= len(plan)+1; step++ {
		n := pendingAt(plan, min(step, len(plan)), 0)
		for _, loss := range []api.Loss{{Torn: -1}, {Keep: keepOf(n / 2), Torn: -1}, {Keep: keepOf(n - 1), Torn: -1}, {Keep: []uint64{1<<64 - 1}, Torn: -1}} {
			d, twin := loaded(t, image), loaded(t, image)
			l := opened(t, d, false)
			isOK(t, "Arm", d.Arm(step, loss), twin.Arm(step, loss))
			code := carriedOut(twin, plan)
			isFault(t, "Commit", l.Commit(pages...), "Commit", 0, code)
			isAs(t, fmt.Sprintf("step %d", step), d, take(twin))
			isOK(t, "Up", d.Up(), twin.Up())
			again, stood, _ := planOpen(twin)
			carriedOut(twin, again)
			opened(t, d, stood)
			isAs(t, fmt.Sprintf("step %d, opened", step), d, take(twin))
		}
	}
}
