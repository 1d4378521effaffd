package store

import (
	"bytes"
	"strings"

	"coffret/api"
	"coffret/wire"
)

const (
	maxChanges = 4096 // of a record
	countBytes = 2    // bytes that tell how many changes a record has
	goneBytes  = 1    // bytes of a change that tell whether its key is gone
)

// Change is a key with another value, or none any more.
type Change struct {
	Key   string
	Value []byte
	Gone  bool
}

// mayBe tells whether a record may have such changes.
func mayBe(l []Change) bool {
	if len(l) > maxChanges {
		return false
	}
	for _, c := range l {
		if len(c.Key) < 1 || len(c.Key) > api.MaxKey || len(c.Value) > api.MaxSized {
			return false
		}
	}
	return true
}

// change makes changes, one behind the other.
func change(values map[string][]byte, l []Change) {
	for _, c := range l {
		if c.Gone {
			delete(values, c.Key)
		} else {
			values[strings.Clone(c.Key)] = bytes.Clone(c.Value)
		}
	}
}

// length is how many bytes laid has, told ahead of laying them, since there may be far more than a disk takes.
func length(l []Change) uint64 {
	n := countBytes
	for _, c := range l {
		n += goneBytes + sizeBytes + len(c.Key) + sizeBytes + len(c.kept())
	}
	return uint64(n)
}

// laid are changes as a record's bytes.
func laid(l []Change) []byte {
	b := make([]byte, 0, length(l))
	b = append(b, wire.Put(nil, uint64(len(l)), countBytes)...)
	for _, c := range l {
		b = append(b, c.laid()...)
	}
	return b
}

func (c Change) laid() []byte {
	b := []byte{0}
	if c.Gone {
		b[0] = 1
	}
	return wire.Sized(wire.Sized(b, []byte(c.Key)), c.kept())
}

// kept is what is kept of the value.
func (c Change) kept() []byte {
	if c.Gone {
		return nil
	}
	return c.Value
}

// readChanges reads the changes of a record; false, if they may not be, or the bytes are others than theirs.
func readChanges(b []byte) ([]Change, bool) {
	r := wire.New(b)
	var l []Change
	for range r.Num(countBytes) {
		gone := r.Num(goneBytes)
		l = append(l, Change{Key: string(r.Sized()), Value: r.Sized(), Gone: gone > 0})
	}
	return l, mayBe(l) && bytes.Equal(laid(l), b)
}
