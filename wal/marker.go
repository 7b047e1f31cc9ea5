package wal

import (
	"slices"

	"lethe/api"
)

// A marker's bytes: the pages' bits are the first ones. The last one says whether it stands, since it is the last that a torn write would reach.
const (
	bitBytes = 32
	standsAt = api.SectorSize - 1
	standing = 1
)

// marker: the bytes of sector 0.
type marker []byte

// markerOf: one that stands for just these pages.
func markerOf(pages []api.PageWrite) marker {
	m := make(marker, api.SectorSize)
	for _, w := range pages {
		m[w.Number/8] |= 1 << (w.Number % 8)
	}
	m[standsAt] = standing
	return m
}

func (m marker) stands() bool { return m[standsAt] == standing }

// off: the same one, taken away.
func (m marker) off() marker {
	c := slices.Clone(m)
	c[standsAt] = 0
	return c
}

// numbers: the pages that it has a bit for, rising, those that no disk has too.
func (m marker) numbers() []int {
	var list []int
	for n := range 8 * bitBytes {
		if m[n/8]>>(n%8)&1 == 1 {
			list = append(list, n)
		}
	}
	return list
}

// makesSense: could sector 0 be so on a disk with room for so many pages? Of one that is no standing marker only the last byte counts: a torn one may hold anything ahead of it.
func (m marker) makesSense(pages int) bool {
	if m[standsAt] == 0 {
		return true
	}
	list := m.numbers()
	return m.stands() && allZeros(m[bitBytes:standsAt]) && len(list) > 0 && list[len(list)-1] < pages
}
