// Package wire is layer 1: numbers and texts as bytes. See shared/doc/01-wire.md.
package wire

import (
	"errors"

	"coffret/api"
)

const (
	maxNumber = 8         // bytes of a number
	maxList   = 1<<16 - 1 // texts of a list: more can't be told in two bytes
	sizeBytes = 4         // bytes that tell how many bytes a text has
	listBytes = 2         // bytes that tell how many texts a list has
)

// Put lays the lowest n bytes of v behind those of b, the highest first.
func Put(b []byte, v uint64, n int) []byte {
	n = numberBytes(n)
	return layNumber(fresh(b, n), v, n)
}

// Sized lays a text behind the bytes of b, and ahead of it how many bytes it has.
func Sized(b, x []byte) []byte {
	return layText(fresh(b, sizeBytes+len(x)), x)
}

// List lays texts behind the bytes of b, and ahead of them how many there are.
func List(b []byte, l [][]byte) []byte {
	l = l[:min(len(l), maxList)]
	room := listBytes
	for _, x := range l {
		room += sizeBytes + len(x)
	}
	out := layNumber(fresh(b, room), uint64(len(l)), listBytes)
	for _, x := range l {
		out = layText(out, x)
	}
	return out
}

// numberBytes is how many bytes a number has for which n are asked.
func numberBytes(n int) int {
	return min(max(n, 0), maxNumber)
}

// fresh copies b into memory with room behind it, so that laying more never touches the spare room of what was handed in.
func fresh(b []byte, room int) []byte {
	return append(make([]byte, 0, len(b)+room), b...)
}

func layNumber(own []byte, v uint64, n int) []byte {
	for i := range n {
		own = append(own, byte(v>>(8*(n-1-i))))
	}
	return own
}

func layText(own, x []byte) []byte {
	return append(layNumber(own, uint64(len(x)), sizeBytes), x...)
}

// Reader reads bytes from their beginning on; once something is wrong, nothing more is read.
type Reader struct {
	ahead []byte // not yet read; none, once something is wrong
	wrong api.Errno
}

// New makes a reader of a copy of the bytes.
func New(b []byte) *Reader {
	return &Reader{ahead: fresh(b, 0)}
}

// Num reads a number of n bytes.
func (r *Reader) Num(n int) uint64 {
	var v uint64
	r.next(numberBytes(n), func(b []byte) {
		for _, x := range b {
			v = v<<8 | uint64(x)
		}
	})
	return v
}

// Raw reads n bytes.
func (r *Reader) Raw(n int) []byte {
	var out []byte
	r.next(max(n, 0), func(b []byte) {
		out = fresh(b, 0)
	})
	return out
}

// Sized reads a text that has its length ahead.
func (r *Reader) Sized() []byte {
	n := r.Num(sizeBytes)
	if n > api.MaxSized {
		r.fail(api.ErrBig)
		return nil
	}
	return r.Raw(int(n))
}

// List reads a list of at most so many texts.
func (r *Reader) List(most int) [][]byte {
	count := int(r.Num(listBytes))
	if count > most {
		r.fail(api.ErrBig)
		return nil
	}
	// Room is made as texts come, since a count alone may promise far more than there is.
	var l [][]byte
	for range count {
		l = append(l, r.Sized())
		if !r.cameTo(api.OK) {
			return nil
		}
	}
	return l
}

// Left tells how many bytes are not read yet.
func (r *Reader) Left() int {
	if r == nil {
		return 0
	}
	return len(r.ahead)
}

// Wrong tells what went wrong first.
func (r *Reader) Wrong() api.Errno {
	if r == nil {
		return api.OK
	}
	return r.wrong
}

// Done tells what went wrong, or else that bytes are left; that they are is not wrong from then on.
func (r *Reader) Done() api.Errno {
	if r.cameTo(api.OK) && r.Left() > 0 {
		return api.ErrForm
	}
	return r.Wrong()
}

// cameTo tells whether this is what the reader came to so far.
func (r *Reader) cameTo(e api.Errno) bool {
	return errors.Is(r.Wrong(), e)
}

// next hands the next n bytes to use, which copies what it wants to keep of them; use isn't called where they are missing.
func (r *Reader) next(n int, use func(b []byte)) {
	if r == nil || !r.cameTo(api.OK) {
		return
	}
	if n > len(r.ahead) {
		r.fail(api.ErrEnd)
		return
	}
	use(r.ahead[:n])
	r.ahead = r.ahead[n:]
}

// fail notes what is wrong, unless something was before, and lets go of the bytes that nobody may read any more.
func (r *Reader) fail(e api.Errno) {
	if r == nil || !r.cameTo(api.OK) {
		return
	}
	r.wrong = e
	r.ahead = nil
}
