package box_test

import (
	"bytes"
	"fmt"
	"testing"

	"coffret/aead"
	"coffret/api"
	"coffret/box"
	"coffret/chacha"
	"coffret/draws"
	"coffret/sample"
)

func someKey() api.Key {
	return api.Key(sample.Text(32))
}

func keys() []api.Key {
	return []api.Key{{}, api.Key(sample.Ones(32)), someKey(), {0: 1}, {31: 0x80}}
}

func modes() []int {
	return []int{box.Real, box.Ideal}
}

// lengths are those about a nonce, a tag, both, and a block.
func lengths() []int {
	return []int{0, 1, 2, 11, 12, 13, 15, 16, 17, 27, 28, 29, 63, 64, 65, 300}
}

// texts are some of each length, nil too.
func texts() [][]byte {
	l := [][]byte{nil}
	for _, n := range lengths() {
		l = append(l, sample.Text(n), sample.Ones(n))
	}
	return l
}

// made is a box of a mode, and the source that it draws from.
func made(t *testing.T, mode int, l ...[]byte) (*box.Box, *draws.Source) {
	t.Helper()
	s := draws.New(l...)
	b, e := box.New(mode, s)
	if e != api.OK || b == nil {
		t.Fatalf("New(%d): %v, %d", mode, b, e)
	}
	return b, s
}

// sealed is what a box seals a text to, where it must.
func sealed(t *testing.T, b *box.Box, k api.Key, beside, text []byte) []byte {
	t.Helper()
	out, e := b.Seal(k, beside, text)
	if e != api.OK || len(out) != len(text)+box.Over || !b.Known(out) {
		t.Fatalf("%d bytes beside %d are sealed to %d bytes, error %d, known: %v", len(text), len(beside), len(out), e, b.Known(out))
	}
	return out
}

// overwrite writes all over what was handed out, its spare room too.
func overwrite(b []byte) {
	all := b[:cap(b)]
	for i := range all {
		all[i] ^= 0xff
	}
}

// checkState tells whether a box has a mode, sealed so many, and its source told so many bytes.
func checkState(t *testing.T, what string, b *box.Box, s *draws.Source, mode, count, used int) {
	t.Helper()
	for range 2 {
		if b.Mode() != mode || b.Count() != count || s.Used() != used {
			t.Errorf("%s: the mode is %d, want %d; %d were sealed, want %d; %d bytes were drawn, want %d", what, b.Mode(), mode, b.Count(), count, s.Used(), used)
		}
	}
}

// checkOpened tells whether a text is opened to another.
func checkOpened(t *testing.T, what string, b *box.Box, k api.Key, beside, sealed, text []byte) {
	t.Helper()
	if got, ok := b.Open(k, beside, sealed); !ok || !bytes.Equal(got, text) {
		t.Errorf("%s: %x beside %x was opened to %x, %v, want %x", what, sample.Some(sealed), sample.Some(beside), sample.Some(got), ok, sample.Some(text))
	}
}

// checkRefused tells whether a text isn't opened.
func checkRefused(t *testing.T, what string, b *box.Box, k api.Key, beside, sealed []byte) {
	t.Helper()
	if got, ok := b.Open(k, beside, sealed); ok || len(got) != 0 {
		t.Errorf("%s: %x beside %x was opened to %x, %v", what, sample.Some(sealed), sample.Some(beside), sample.Some(got), ok)
	}
}

// checkError tells whether a text isn't sealed, by which error.
func checkError(t *testing.T, what string, b *box.Box, k api.Key, beside, text []byte, want api.Errno) {
	t.Helper()
	if got, e := b.Seal(k, beside, text); e != want || len(got) != 0 {
		t.Errorf("%s: %d bytes beside %d: %x, error %d, want %d", what, len(text), len(beside), sample.Some(got), e, want)
	}
}

// plainBox is the chapter, taken word by word: what was sealed stands in a list, and bytes are drawn one by one.
type plainBox struct {
	mode   int
	source *draws.Source
	list   []plainSealed
}

type plainSealed struct {
	sealed, beside, text []byte
	key                  api.Key
}

func (p *plainBox) draw(n int) []byte {
	var b []byte
	for range n {
		b = append(b, p.source.Take(1)...)
	}
	return b
}

func (p *plainBox) known(sealed []byte) bool {
	for _, x := range p.list {
		if bytes.Equal(x.sealed, sealed) {
			return true
		}
	}
	return false
}

func (p *plainBox) seal(k api.Key, beside, text []byte) ([]byte, api.Errno) {
	if len(text) > api.MaxSized || len(beside) > api.MaxSized {
		return nil, api.ErrBig
	}
	var out []byte
	if p.mode == box.Real {
		nonce := p.draw(12)
		out = append(nonce, aead.Seal(k, chacha.Nonce(nonce), beside, text)...)
	} else {
		out = p.draw(len(text) + 28)
		for tries := 1; p.known(out); tries++ {
			if tries == 8 {
				return nil, api.ErrFull
			}
			out = p.draw(len(text) + 28)
		}
	}
	p.list = append(p.list, plainSealed{bytes.Clone(out), bytes.Clone(beside), bytes.Clone(text), k})
	return out, api.OK
}

func (p *plainBox) open(k api.Key, beside, sealed []byte) ([]byte, bool) {
	if p.mode == box.Real {
		if len(sealed) < 28 {
			return nil, false
		}
		return aead.Open(k, chacha.Nonce(sealed[:12]), beside, sealed[12:])
	}
	for _, x := range p.list {
		if bytes.Equal(x.sealed, sealed) && x.key == k && bytes.Equal(x.beside, beside) {
			return x.text, true
		}
	}
	return nil, false
}

// pair is a box, and the plain one beside it, which draws from a source that goes on alike.
type pair struct {
	b *box.Box
	s *draws.Source
	p *plainBox
}

func paired(t *testing.T, mode int, l ...[]byte) pair {
	t.Helper()
	b, s := made(t, mode, l...)
	return pair{b, s, &plainBox{mode: mode, source: s.Clone()}}
}

// seal lets both seal a text, and holds what they answer, and what they are then, against each other.
func (c pair) seal(t *testing.T, k api.Key, beside, text []byte) ([]byte, api.Errno) {
	t.Helper()
	what := fmt.Sprintf("mode %d, %d bytes beside %d, as the number %d", c.p.mode, len(text), len(beside), len(c.p.list))
	want, wantErr := c.p.seal(k, beside, text)
	got, e := c.b.Seal(k, beside, text)
	if e != wantErr || !bytes.Equal(got, want) {
		t.Errorf("%s: sealed to %d bytes, %x, error %d, want %d, %x, error %d", what, len(got), sample.Some(got), e, len(want), sample.Some(want), wantErr)
	}
	c.same(t, what)
	return got, e
}

// same tells whether both are alike, as far as calls that change nothing show it.
func (c pair) same(t *testing.T, what string) {
	t.Helper()
	checkState(t, what, c.b, c.s, c.p.mode, len(c.p.list), c.p.source.Used())
}

// open lets both open a text, and holds what they answer against each other.
func (c pair) open(t *testing.T, k api.Key, beside, sealed []byte) {
	t.Helper()
	want, wantOk := c.p.open(k, beside, sealed)
	got, ok := c.b.Open(k, beside, sealed)
	if ok != wantOk || !bytes.Equal(got, want) {
		t.Errorf("mode %d: %x beside %x was opened to %x, %v, want %x, %v", c.p.mode, sample.Some(sealed), sample.Some(beside), sample.Some(got), ok, sample.Some(want), wantOk)
	}
	if got, want := c.b.Known(sealed), c.p.known(sealed); got != want {
		t.Errorf("mode %d: %x is known: %v, want %v", c.p.mode, sample.Some(sealed), got, want)
	}
	c.same(t, "behind Open and Known")
}
