package world_test

import (
	"bytes"
	"slices"

	"lethe/api"
)

// plain: a disk by the words of chapter 8, with the log of chapter 9 on it: what a commit or an opening leaves of it, wherever it gives up. Behind the call that crashes every further one does nothing.
type plain struct {
	image   []byte
	pending []api.Pending
	left    int // changing calls till the one that crashes; 0: it is not armed
	loss    api.Loss
	down    bool
}

func (d *plain) arm(step int, loss api.Loss) {
	d.left, d.loss = step, api.Loss{Keep: slices.Clone(loss.Keep), Torn: loss.Torn, Offset: loss.Offset}
}

func (d *plain) up() { d.down, d.left = false, 0 }

func (d *plain) sector(i int) []byte { return d.image[512*i : 512*i+512] }

// counts: a changing call more.
func (d *plain) counts() {
	if d.left == 0 {
		return
	}
	if d.left--; d.left > 0 {
		return
	}
	for k, w := range d.pending {
		if k/64 < len(d.loss.Keep) && d.loss.Keep[k/64]>>(k%64)&1 == 1 {
			copy(d.sector(w.Sector), w.Bytes)
		} else if k == d.loss.Torn {
			copy(d.sector(w.Sector), w.Bytes[:min(max(d.loss.Offset, 0), 512)])
		}
	}
	d.pending, d.down = nil, true
}

func (d *plain) write(i int, b []byte) {
	if !d.down {
		d.pending = append(d.pending, api.Pending{Sector: i, Bytes: bytes.Clone(b)})
		d.counts()
	}
}

func (d *plain) flush() {
	if d.down {
		return
	}
	if d.counts(); d.down {
		return
	}
	for _, w := range d.pending {
		copy(d.sector(w.Sector), w.Bytes)
	}
	d.pending = nil
}

// room: for how many pages.
func (d *plain) room() int { return min(250, (len(d.image)/512-1)/4) }

// commit: P9.7: the homes become those of another image, in five steps.
func (d *plain) commit(wanted []byte) {
	p := d.room()
	next := &plain{image: wanted}
	marker := make([]byte, 512)
	var slots, homes []int
	for n := range p {
		home := 1 + 2*p + 2*n
		if bytes.Equal(d.sector(home), next.sector(home)) && bytes.Equal(d.sector(home+1), next.sector(home+1)) {
			continue
		}
		slots, homes = append(slots, 1+2*n, 2+2*n), append(homes, home, home+1)
		marker[n/8] |= 1 << (n % 8)
	}
	if len(homes) == 0 {
		return
	}
	for k, home := range homes {
		d.write(slots[k], next.sector(home))
	}
	d.flush()
	marker[511] = 1
	d.write(0, marker)
	d.flush()
	for _, home := range homes {
		d.write(home, next.sector(home))
	}
	d.flush()
	marker[511] = 0
	d.write(0, marker)
	d.flush()
	for _, i := range append([]int{0}, slots...) {
		d.write(i, make([]byte, 512))
	}
	d.flush()
}

// open: P9.3: what the marker says is done, and the log is wiped.
func (d *plain) open() {
	p := d.room()
	if marker := bytes.Clone(d.sector(0)); marker[511] == 1 {
		for n := range p {
			if marker[n/8]>>(n%8)&1 == 1 {
				d.write(1+2*p+2*n, d.sector(1+2*n))
				d.write(2+2*p+2*n, d.sector(2+2*n))
			}
		}
		d.flush()
		marker[511] = 0
		d.write(0, marker)
		d.flush()
	}
	zeros, wiped := make([]byte, 512), 0
	for i := 0; i <= 2*p; i++ {
		if !bytes.Equal(d.sector(i), zeros) {
			d.write(i, zeros)
			wiped++
		}
	}
	if wiped > 0 {
		d.flush()
	}
}
