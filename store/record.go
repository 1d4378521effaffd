package store

import (
	"bytes"
	"slices"

	"coffret/api"
	"coffret/disk"
	"coffret/sha"
	"coffret/wire"
)

const (
	magic           = "\x01CST" // what a mark begins with
	generationBytes = 8
	numberBytes     = 8
	sizeBytes       = 4 // bytes that tell how many bytes a record, or a text in it, has
	restBytes       = 8 // zeros that end a mark
	gapBytes        = disk.Bytes / 2

	partByte  = 2              // what a sector behind the mark's begins with
	partBytes = disk.Bytes - 1 // bytes of a record in such a sector
)

// mark is what the first sector of a record says of it.
type mark struct {
	generation uint64
	number     uint64
	size       uint64 // how many bytes the record has
	sum        [sha.Size]byte
}

// record is changes, as the bytes that they have on a disk.
type record struct {
	mark
	text []byte
}

func newRecord(generation, number uint64, text []byte) record {
	return record{mark{generation, number, uint64(len(text)), sha.Sum(text)}, text}
}

// sector is the mark twice: one that is torn in the midst of a write has another mark at its end than at its beginning.
func (m mark) sector() []byte {
	b := []byte(magic)
	b = wire.Put(b, m.generation, generationBytes)
	b = wire.Put(b, m.number, numberBytes)
	b = wire.Put(b, m.size, sizeBytes)
	b = append(b, m.sum[:]...)
	b = append(b, make([]byte, restBytes)...)
	return slices.Concat(b, make([]byte, gapBytes), b)
}

// sectors are those of a record, that of its mark first.
func (r record) sectors() [][]byte {
	l := [][]byte{r.sector()}
	for part := range slices.Chunk(r.text, partBytes) {
		b := make([]byte, disk.Bytes)
		b[0] = partByte
		copy(b[1:], part)
		l = append(l, b)
	}
	return l
}

// sectorsOf is how many sectors a record of so many bytes has.
func sectorsOf(size uint64) int {
	return 1 + int((size+partBytes-1)/partBytes)
}

// write writes a record from a sector on. Its mark is under way only when all behind it is safe.
func (r record) write(d *disk.Disk, at int) api.Errno {
	l := r.sectors()
	for i, b := range l[1:] {
		if e := d.Write(at+1+i, b); e != api.OK {
			return e
		}
	}
	if e := d.Sync(); e != api.OK {
		return e
	}
	if e := d.Write(at, l[0]); e != api.OK {
		return e
	}
	return d.Sync()
}

// readRecord reads the record from a sector on, and its changes; false, if no whole one stands there ahead of the end.
func readRecord(d *disk.Disk, at, end int) (record, []Change, bool) {
	b, _ := d.Read(at)
	m := readMark(b)
	n := sectorsOf(m.size)
	if n > end-at {
		return record{}, nil, false
	}
	var sectors [][]byte
	var text []byte
	for i := range n {
		b, e := d.Read(at + i)
		if e != api.OK {
			return record{}, nil, false
		}
		sectors = append(sectors, b)
		if i > 0 {
			text = append(text, b[1:]...)
		}
	}
	r := newRecord(m.generation, m.number, text[:m.size])
	l, ok := readChanges(r.text)
	if !ok || !slices.EqualFunc(sectors, r.sectors(), bytes.Equal) {
		return record{}, nil, false
	}
	return r, l, true
}

// readMark reads what a sector says of a record, if it is the mark's. Whether it is, and what the sum is, shows where the record is laid again.
func readMark(sector []byte) mark {
	r := wire.New(sector)
	r.Raw(len(magic))
	var m mark
	m.generation = r.Num(generationBytes)
	m.number = r.Num(numberBytes)
	m.size = r.Num(sizeBytes)
	return m
}
