package audit_test

import (
	"bytes"
	"fmt"
	"reflect"
	"slices"
	"sync"
	"testing"

	"lethe/api"
	"lethe/audit"
)

// someImages: that can be read, clean and not, and that can't.
func someImages() [][]byte {
	list := recs(rec(1, "a", "limits"), rec(2, "\x00", string(sample(64, 1))), rec(4, "\x01b", stateBytes(1, 1, 3, 3, 0, 1, false)), rec(5, "k", string(sample(32, 2))), sized(6, "p", 700), rec(6, "q", ""))
	clean := wordsLayout(22, list)
	return [][]byte{clean, imageOf(22, list[:2], list[2:4], list[4:]), turned(clean, 3, 1), turned(clean, len(clean)-1, 9), turned(clean, wordsHome(5, 1)+20, 77), zeros(2560), zeros(2048), sample(511, 3), nil}
}

// asked: all answers, Find's too.
func asked(image, what []byte) string {
	a := ask(image)
	return fmt.Sprint(regionsTold(a.regions), told(a.records), a.clean, a.secrets, a.codes, audit.Find(image, what))
}

// P27.1: what is handed in stays as it is, its spare room too.
func TestHandedInStays(t *testing.T) {
	for i, image := range someImages() {
		for _, what := range [][]byte{{0}, {0, 0, 0}, sample(32, 2), image, nil} {
			lent, piece := roomy(image), roomy(what)
			got := asked(lent, piece)
			if want := asked(bytes.Clone(image), bytes.Clone(what)); got != want {
				t.Errorf("P27.1: image %d: with spare room the answers are others", i)
			}
			if !bytes.Equal(wholeRoom(lent)[:len(image)+40], joined(image, full(0x5a, 40))) || !bytes.Equal(wholeRoom(piece)[:len(what)+40], joined(what, full(0x5a, 40))) {
				t.Errorf("P27.1: image %d: what was handed in has changed", i)
			}
		}
	}
}

// P27.1: nothing of what is handed in is kept: what becomes of it later is not seen in the answers.
func TestNothingIsKept(t *testing.T) {
	for i, image := range someImages() {
		lent, what := roomy(image), roomy([]byte{0, 0})
		a, places := ask(lent), audit.Find(lent, what)
		was := fmt.Sprint(regionsTold(a.regions), told(a.records), a.secrets, places)
		values := fmt.Sprintf("%x", a.records)
		spoil(lent)
		spoil(what)
		if got := fmt.Sprint(regionsTold(a.regions), told(a.records), a.secrets, places); got != was || fmt.Sprintf("%x", a.records) != values {
			t.Errorf("P27.1: image %d: the answers have changed with the image", i)
		}
	}
}

// lists: all that Records hands out as bytes.
func lists(records []api.Record) [][]byte {
	var all [][]byte
	for _, r := range records {
		all = append(all, r.Key, r.Value)
	}
	return all
}

// P27.1: each record's key and value is memory of its own, spare room too, and neither the image nor another answer sees what is written there.
func TestHandedOutIsNew(t *testing.T) {
	for i, image := range someImages() {
		was := bytes.Clone(image)
		first, _ := audit.Records(image)
		second, _ := audit.Records(image)
		kept := fmt.Sprintf("%x", second)
		all := lists(first)
		for k, b := range all {
			var others [][]byte
			for j, o := range all {
				if j != k {
					others = append(others, wholeRoom(o))
				}
			}
			before := fmt.Sprintf("%x", others)
			spoil(b)
			_ = append(b, full(0x77, 100)...)
			if fmt.Sprintf("%x", others) != before {
				t.Errorf("P27.1: image %d: list %d shares memory with another one", i, k)
			}
		}
		if !bytes.Equal(image, was) || fmt.Sprintf("%x", second) != kept {
			t.Errorf("P27.1: image %d: the image, or another answer, has changed", i)
		}
		third, _ := audit.Records(image)
		if fmt.Sprintf("%x", third) != kept {
			t.Errorf("P27.1: image %d: it answers otherwise now", i)
		}
	}
}

// twice: two answers share nothing, in their spare room either: one that is overwritten as a whole, and appended to, leaves the other one.
func twice[T any](t *testing.T, what string, ask func() []T, other T) {
	t.Helper()
	first, second := ask(), ask()
	was := slices.Clone(wholeRoom(second))
	for i := range wholeRoom(first) {
		wholeRoom(first)[i] = other
	}
	_ = append(first, other, other, other)
	if !reflect.DeepEqual(wholeRoom(second), was) || !reflect.DeepEqual(ask(), second) {
		t.Errorf("P27.1: %s: two answers share memory", what)
	}
}

func TestListsAreNew(t *testing.T) {
	for i, image := range someImages() {
		what := fmt.Sprintf("image %d", i)
		twice(t, what+": Regions", func() []api.Region { list, _ := audit.Regions(image); return list }, api.Region{Lo: -1, Hi: -1, What: -1})
		twice(t, what+": Records", func() []api.Record { list, _ := audit.Records(image); return list }, rec(9, "other", "other"))
		twice(t, what+": Secrets", func() []api.Key { list, _ := audit.Secrets(image); return list }, api.Key(full(0x99, 32)))
		twice(t, what+": Find", func() []int { return audit.Find(image, []byte{0, 0}) }, -1)
	}
}

// P27.1: the same answers, whoever asks, as often as they like, and whatever was asked ahead of it.
func TestAskedAgain(t *testing.T) {
	images := someImages()
	want := make([]string, len(images))
	for i, image := range images {
		want[i] = asked(image, []byte{0, 0})
	}
	var wait sync.WaitGroup
	for k := range 8 {
		wait.Go(func() {
			for i := range images {
				at := (i*3 + k) % len(images)
				if asked(images[at], []byte{0, 0}) != want[at] {
					t.Errorf("P27.1: image %d: other answers", at)
				}
			}
		})
	}
	wait.Wait()
}
