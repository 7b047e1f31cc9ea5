package world_test

import (
	"fmt"
	"slices"
	"testing"

	"lethe/api"
)

// P24.1: Arm, Boot and Close of nodes that run, are closed, whose disk gave up, armed again while they boot.
func TestDisks(t *testing.T) {
	b := newBench(t, 2, narrow())
	b.goes("create 1 5 *")
	b.is("boot 1 0 - 0 0", 243, 0, 0, "")
	b.is("boot 1 1 - -1 0", 243, 0, 0, "") // and it is not armed then
	b.is("publish 1 2 *", 0, 1, 1, "+")
	b.is("arm 1 1 - -1 0", 0, 0, 0, "")
	b.is("arm 1 -1 - -1 0", 4, 0, 0, "") // it is armed as it was
	b.is("boot 1 0 - 0 0", 243, 0, 0, "")
	b.is("publish 1 2 *", 80, 0, 0, "")
	b.is("publish 1 2 *", 80, 0, 0, "")
	b.is("close 1", 80, 0, 0, "")
	b.is("arm 1 1 - -1 0", 80, 0, 0, "")
	b.is("arm 1 -1 - -1 0", 80, 0, 0, "")
	b.is("boot 1 -9 - 0 0", 0, 4, 0, "") // below 0: not armed
	b.is("arm 1 1 - -1 0", 0, 0, 0, "")
	b.is("arm 1 0 ffffffffffffffff -1 0", 0, 0, 0, "") // armed no more
	b.is("publish 1 2 *", 0, 2, 2, "+")
	b.is("arm 1 1 - -1 0", 0, 0, 0, "")
	b.is("close 1", 0, 0, 0, "")
	b.is("close 1", 220, 0, 0, "")
	b.is("arm 1 1 - -1 0", 0, 0, 0, "") // a closed one's disk can be armed
	b.is("boot 1 0 - 0 0", 0, 5, 0, "") // and is not when it boots
	b.is("publish 1 2 *", 191, 0, 0, "")
	b.goes("close 1")
	b.is("boot 1 2 - -1 0", 0, 5, 0, "") // armed behind Open too, which had nothing to write
	b.is("boot 1 0 - 0 0", 243, 0, 0, "")
	b.is("status 1 2", 211, 0, 0, "") // what only asks doesn't meet the disk
	b.is("forget 1 2", 211, 0, 0, "")
	if v := b.w.Views()[0]; !v.Up || v.Prekeys != 2 {
		t.Errorf("P24.1: %+v", v)
	}
}

// P24.1, P4: a disk whose log holds a commit gives up again and again while it is opened; at last all of the call is there.
func TestBootGivesUp(t *testing.T) {
	b := raised(t, 5)
	b.goes("arm 1 7 ffffffffffffffff -1 0") // the marker's Flush
	b.is("send 1 2 'made -", 80, 0, 0, "")
	for _, line := range []string{"boot 1 1 - -1 0", "boot 1 2 - 0 99", "boot 1 3 - -1 0", "boot 1 4 0000000000000005 1 512", "boot 1 5 - -1 0", "boot 1 6 - -1 0"} {
		b.is(line, 80, 0, 0, "")
		b.is("status 1 2", 80, 0, 0, "")
		b.is("close 1", 80, 0, 0, "")
	}
	b.is("boot 1 0 - 0 0", 0, 6, 0, "")
	b.is("replay 1 2", 0, 2, 0, "")
	b.is("deliver 4 * -", 0, 2, 1, "made")
}

// P24.1, P24.2: all scripts of four steps that close, boot, arm a node, and make its disk give up, are what the words say.
func TestEveryShortScript(t *testing.T) {
	lines := []string{"arm 1 1 - -1 0", "arm 1 6 0000000000000001 -1 0", "arm 1 0 - 0 0", "boot 1 0 - 0 0", "boot 1 2 - 0 7", "close 1", "publish 1 2 *"}
	for i, first := range lines {
		t.Run(first, func(t *testing.T) {
			t.Parallel()
			n := len(lines)
			for script := range n * n * n {
				b := newBench(t, 2, narrow())
				b.quick("create", b.step("create 1 3 *"))
				what := lines[i]
				b.plays(what, b.step(what))
				for _, k := range []int{script / n / n, script / n % n, script % n} {
					what += ", " + lines[k]
					b.plays(what, b.step(lines[k]))
				}
			}
		})
	}
}

// keeps: what a crash may leave of the newest writes.
func keeps() []string {
	return []string{"- -1 0", "ffffffffffffffff -1 0", "000000000000000a 0 511", "- 2 40"}
}

// P24.2, P4: a node's disk gives up at each of its calls in each kind of steps, and again while it boots: its records are those ahead of the step or those behind it, the latter if it had been told; and the world goes on.
func TestGivesUpEverywhere(t *testing.T) {
	for _, line := range []string{"publish 1 2 *", "initiate 1 3 * * 'hi 'd", "send 1 2 'hi -", "deliver 1 * 'd", "deliver 2 * 'd", "deliver 3 * -", "ack 1 2 0", "forget 1 2"} {
		t.Run(line, func(t *testing.T) {
			t.Parallel()
			behind, _ := given(t, 0, "- -1 0", line).w.Records(1)
			found := map[string]int{}
			for step := 1; ; step++ {
				crashed := false
				for i, keep := range keeps() {
					b := given(t, step, keep, line)
					if b.r.spots[0].ended == 0 {
						continue
					}
					crashed = true
					b.bootsAtLast(i)
					found[b.fate(fmt.Sprint(line, " that gave up at ", step), behind)]++
				}
				if !crashed {
					break
				}
			}
			if found["ahead"] < 10 || found["behind"] < 10 {
				t.Errorf("P4: %s: found %v", line, found)
			}
		})
	}
}

// given: a world in which the step was played, on a disk that gave up at that call.
func given(t *testing.T, step int, keep, line string) *bench {
	t.Helper()
	b := raised(t, 5)
	plainly("publish 1 3 *", "initiate 3 1 * * 'first -")(b, nil)
	b.ahead, _ = b.w.Records(1)
	b.goes(fmt.Sprintf("arm 1 %d %s", step, keep))
	if a := b.does(line); a.Code != 0 && a != code(80) {
		t.Fatalf("%s: %s", line, told(a))
	}
	return b
}

// bootsAtLast: it gives up as often as it can be made to, up to three times.
func (b *bench) bootsAtLast(n int) {
	b.t.Helper()
	for step := range n % 4 {
		if a := b.does(fmt.Sprintf("boot 1 %d %s", 1+2*step, keeps()[n])); a.Code == 0 {
			return
		}
	}
	b.goes("boot 1 0 - 0 0")
}

// fate: which records were found at last; then the world goes on.
func (b *bench) fate(what string, behind []api.Record) string {
	b.t.Helper()
	list, e := b.w.Records(1)
	for _, line := range []string{"replay 1 2", "replay 1 3", "deliver 1 * 'd", "send 1 2 'more -", "status 1 2"} {
		b.does(line)
	}
	switch {
	case e == 0 && sameRecords(list, b.ahead):
		return "ahead"
	case e == 0 && sameRecords(list, behind):
		return "behind"
	}
	b.t.Errorf("P4: %s: error %d; neither the records ahead of it nor those behind it", what, e)
	return ""
}

// P7: nodes with the same records have the same image, however they came about; and what was forgotten stands nowhere.
func TestSameImages(t *testing.T) {
	b := newBench(t, 3, narrow())
	b.goes("create 1 9 D1", "create 2 9 D1", "create 3 9 D1")
	if b.digest(1) != b.digest(2) || b.digest(2) != b.digest(3) {
		t.Errorf("P7: nodes of one draw have other images")
	}
	image, _ := b.w.Image(1)
	b.goes("publish 2 1 *", "publish 3 1 D9", "initiate 1 2 D2 D3 'secret -", "deliver 0 * -", "send 2 1 'answer -", "deliver 1 * -", "initiate 1 3 D4 D5 'more -", "deliver 2 * -", "send 1 2 'again -")
	if b.digest(1) == b.digest(2) || b.digest(2) == b.digest(3) {
		t.Errorf("P7: nodes with other records have the same image")
	}
	b.goes("forget 1 3", "arm 1 9 - -1 0")
	b.is("forget 1 2", 80, 0, 0, "")
	b.goes("boot 1 0 - 0 0")
	b.does("forget 1 2")
	if behind, _ := b.w.Image(1); !slices.Equal(image, behind) {
		t.Errorf("P7: behind both Forgets the image is not what it was at the beginning")
	}
	b.goes("forget 2 1", "forget 3 1")
	list, _ := b.w.Records(2)
	other, _ := b.w.Records(3)
	if !sameRecords(list, other) || b.digest(2) != b.digest(3) {
		t.Errorf("P7: 2 and 3, who have published one prekey each, have other records or images")
	}
}
