package audit

import "lethe/api"

const firstHead = api.PageHead + 8 // bytes of page 0: its head, and the three numbers that it tells

// walker: goes through an image's bytes, one behind the other.
type walker struct {
	image []byte
	at    int
	show  func(at, what int)
}

// walk: shows every byte's place, rising, and what stands there.
func (d disk) walk(show func(at, what int)) {
	w := walker{image: d.image, show: show}
	w.loose(d.home(0), api.LogPart)
	w.known(firstHead, api.Frame)
	for i, list := range d.used {
		w.loose(d.home(i+1), api.Stray)
		w.known(api.PageHead, api.Frame)
		for _, r := range list {
			w.record(r)
		}
	}
	w.loose(len(d.image), api.Stray)
}

// record: its bytes, as chapter 11 has them.
func (w *walker) record(r api.Record) {
	w.known(2, api.Frame) // the table, the key's length
	w.known(len(r.Key), api.Public)
	w.known(2, api.Frame) // the value's length
	for _, s := range valueOf(r) {
		w.known(s.size, s.what)
	}
}

// known: the next bytes belong to something.
func (w *walker) known(size, what int) {
	for range size {
		w.show(w.at, what)
		w.at++
	}
}

// loose: the bytes ahead of end belong to nothing; dirt is what those are that are not zero.
func (w *walker) loose(end, dirt int) {
	for w.at < end {
		if w.image[w.at] == 0 {
			w.known(1, api.Blank)
		} else {
			w.known(1, dirt)
		}
	}
}
