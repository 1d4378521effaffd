package ring

import (
	"bytes"

	"coffret/api"
	"coffret/box"
)

// What stands beside a text that is sealed, so that none is taken for another.
const (
	besideWrap = "wrap"
	besideDir  = "dir"
)

// lock is what a text is sealed by, and opened.
type lock struct {
	box    *box.Box
	key    api.Key
	beside string
}

func (o lock) seal(text []byte) ([]byte, api.Errno) {
	return o.box.Seal(o.key, []byte(o.beside), text)
}

func (o lock) open(sealed []byte) ([]byte, bool) {
	return o.box.Open(o.key, []byte(o.beside), sealed)
}

// keys tells what a wrap says to who has the lock's key.
func (o lock) keys(wrap []byte) (Keys, bool) {
	text, ok := o.open(wrap)
	if !ok {
		return Keys{}, false
	}
	return keysOf(text)
}

// first tells what the first of the wraps says that says something.
func (o lock) first(wraps [][]byte, says func(o lock, wrap []byte) (Keys, bool)) (Keys, bool) {
	for _, wrap := range wraps {
		if k, ok := says(o, wrap); ok {
			return k, true
		}
	}
	return Keys{}, false
}

// made tells whether box.New made it: a text that is too great is refused by such a one, ahead of anything that it draws or keeps.
func made(b *box.Box) bool {
	_, e := b.Seal(api.Key{}, nil, make([]byte, api.MaxSized+1))
	return e != api.ErrNil
}

// wrapped makes a ring of keys for members. It has as many wraps as any other, so that nobody sees how many members there are.
func wrapped(b *box.Box, k Keys, l []Member) (Ring, api.Errno) {
	var r Ring
	for _, m := range l {
		o := lock{b, m.Key, besideWrap}
		if e := r.wrap(o, k.toldTo(m).text()); e != api.OK {
			return Ring{}, e
		}
	}
	for range api.MaxMembers - len(l) {
		o := lock{b, b.Key(), besideWrap}
		if e := r.wrap(o, nobodys()); e != api.OK {
			return Ring{}, e
		}
	}
	dir, e := lock{b, k.Owner, besideDir}.seal(textOf(l))
	if e != api.OK {
		return Ring{}, e
	}
	r.Dir = dir
	return r, api.OK
}

// wrap lays one more of the wraps behind the others.
func (r *Ring) wrap(o lock, text []byte) api.Errno {
	wrap, e := o.seal(text)
	if e != api.OK {
		return e
	}
	r.Wraps = append(r.Wraps, wrap)
	return api.OK
}

// nobodys is the text of a wrap of no member, which is as long as a wrapped key's, and can't be one.
func nobodys() []byte {
	return bytes.Repeat([]byte{255}, keysBytes)
}
