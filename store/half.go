package store

import (
	"maps"
	"slices"

	"coffret/disk"
)

// half is a half of a disk, and what it has.
type half struct {
	first, end int    // its first sector, and the one behind its last
	next       int    // the sector behind its last record
	generation uint64 // of its records; 0, where none was found
	records    uint64 // how many there are; the next one has that number
	values     map[string][]byte
}

func newHalf(first, end int) half {
	return half{first: first, end: end, next: first, values: map[string][]byte{}}
}

// readHalf tells what a half has, as far as its records are whole and follow one another.
func readHalf(d *disk.Disk, first, end int) half {
	h := newHalf(first, end)
	for {
		r, l, ok := readRecord(d, h.next, end)
		if !ok || !h.goesOn(r) {
			return h
		}
		h.take(r, l)
	}
}

// goesOn tells whether a record is the next one of a half.
func (h *half) goesOn(r record) bool {
	if h.records == 0 {
		return r.number == 0 && r.generation > 0
	}
	return r.number == h.records && r.generation == h.generation
}

// take takes in a record that stands behind the last one.
func (h *half) take(r record, l []Change) {
	h.generation = r.generation
	h.records++
	h.next += sectorsOf(r.size)
	change(h.values, l)
}

// other is the other half, of the next generation, with nothing in it.
func (h *half) other() half {
	n := h.end - h.first
	to := newHalf(n-h.first, 2*n-h.first)
	to.generation = h.generation + 1
	return to
}

func (h *half) left() int {
	return h.end - h.next
}

// hasRoom tells whether the record of some changes has room behind the last one.
func (h *half) hasRoom(l []Change) bool {
	return sectorsOf(length(l)) <= h.left()
}

// with tells all keys and values that there would be with some changes, as changes.
func (h *half) with(l []Change) []Change {
	values := maps.Clone(h.values)
	change(values, l)
	var all []Change
	for _, key := range rising(values) {
		all = append(all, Change{Key: key, Value: values[key]})
	}
	return all
}

func rising(values map[string][]byte) []string {
	return slices.Sorted(maps.Keys(values))
}
