package sectors_test

import (
	"bytes"
	"math/big"
	"testing"

	"lethe/api"
	"lethe/sectors"
)

// model: a device made from the chapter's words: it keeps everything that was called, and looks it through anew for each answer.
type model struct {
	image   []byte
	pending []api.Pending
	down    bool
	calls   int
	armed   bool
	armedAt int // how many changing calls there were when it was armed
	step    int
	loss    api.Loss
}

func newModel(image []byte) *model { return &model{image: joined(image)} }

func (m *model) sectors() int { return len(m.image) / 512 }

func (m *model) has(i int) bool { return i >= 0 && i < m.sectors() }

// bits: a Keep as one number, in which bit k speaks of pending write k.
func bits(keep []uint64) *big.Int {
	all := new(big.Int)
	for j, word := range keep {
		part := new(big.Int).SetUint64(word)
		all.Or(all, part.Lsh(part, uint(64*j)))
	}
	return all
}

// left: what is left in place o of the sector of pending write k.
func left(keep *big.Int, loss api.Loss, k, o int) bool {
	return keep.Bit(k) == 1 || k == loss.Torn && o < loss.Offset
}

// behind: the image behind a loss, byte by byte: each is that of the last write that has left something there.
func (m *model) behind(loss api.Loss) []byte {
	keep, image := bits(loss.Keep), joined(m.image)
	for at := range image {
		for k := len(m.pending) - 1; k >= 0; k-- {
			if w := m.pending[k]; w.Sector == at/512 && left(keep, loss, k, at%512) {
				image[at] = w.Bytes[at%512]
				break
			}
		}
	}
	return image
}

func (m *model) giveUp(loss api.Loss) {
	m.image, m.pending, m.armed, m.down = m.behind(loss), nil, false, true
}

func (m *model) changing() api.Errno {
	m.calls++
	if m.armed && m.calls-m.armedAt == m.step {
		m.giveUp(m.loss)
		return api.ErrDown
	}
	return api.OK
}

func (m *model) read(i int) ([]byte, api.Errno) {
	if m.down {
		return nil, api.ErrDown
	}
	if !m.has(i) {
		return nil, api.ErrSector
	}
	b := m.image[512*i : 512*i+512]
	for _, w := range m.pending {
		if w.Sector == i {
			b = w.Bytes
		}
	}
	return b, api.OK
}

func (m *model) write(i int, b []byte) api.Errno {
	switch {
	case m.down:
		return api.ErrDown
	case !m.has(i):
		return api.ErrSector
	case len(b) != 512:
		return api.ErrData
	}
	m.pending = append(m.pending, write(i, joined(b)))
	return m.changing()
}

func (m *model) flush() api.Errno {
	if m.down {
		return api.ErrDown
	}
	if e := m.changing(); e != api.OK {
		return e
	}
	all := make([]uint64, len(m.pending)/64+1)
	for j := range all {
		all[j] = ^uint64(0)
	}
	m.image, m.pending = m.behind(api.Loss{Keep: all}), nil
	return api.OK
}

func (m *model) arm(step int, loss api.Loss) api.Errno {
	switch {
	case m.down:
		return api.ErrDown
	case step < 0:
		return api.ErrPlace
	}
	m.armed, m.armedAt, m.step, m.loss = step > 0, m.calls, step, loss
	return api.OK
}

func (m *model) crash(loss api.Loss) api.Errno {
	if m.down {
		return api.ErrDown
	}
	m.giveUp(loss)
	return api.OK
}

func (m *model) up() api.Errno {
	m.down, m.armed = false, false
	return api.OK
}

// isModel: all that a device tells is what the model says.
func isModel(t *testing.T, what string, d *sectors.Device, m *model) {
	t.Helper()
	isAs(t, what, d, taken{image: m.image, cache: m.pending, count: m.sectors(), calls: m.calls, down: m.down})
	for i := -1; i <= m.sectors(); i++ {
		want, code := m.read(i)
		if b, e := d.Read(i); e != code || !bytes.Equal(b, want) {
			t.Errorf("%s: Read(%d): error %d, want %d; or other bytes", what, i, e, code)
		}
	}
}
