package box_test

import (
	"bytes"
	"math"
	"testing"

	"coffret/api"
	"coffret/box"
	"coffret/draws"
	"coffret/sample"
)

// The constants, by number.
func TestConstants(t *testing.T) {
	if box.Real != 0 || box.Ideal != 1 || box.Over != 28 {
		t.Errorf("Real %d, Ideal %d, Over %d", box.Real, box.Ideal, box.Over)
	}
}

// P8.1: a box of each mode that sealed nothing, and drew nothing.
func TestNewOfEachMode(t *testing.T) {
	for _, mode := range modes() {
		b, s := made(t, mode, sample.Text(100))
		checkState(t, "New", b, s, mode, 0, 0)
		for _, x := range append(texts(), sample.Text(100)[:28], make([]byte, 28)) {
			if b.Known(x) {
				t.Errorf("mode %d: %x is known", mode, x)
			}
			checkRefused(t, "New", b, api.Key{}, nil, x)
		}
		checkState(t, "New", b, s, mode, 0, 0)
	}
}

// P8.1: numbers that are no mode, with a source and without one: no mode is told first.
func TestNewOfNoMode(t *testing.T) {
	for _, mode := range []int{math.MinInt, -1 << 32, -2, -1, 2, 3, 255, 256, 257, 1 << 31, 1 << 32, 1<<32 + 1, math.MaxInt} {
		s := draws.New()
		if b, e := box.New(mode, s); b != nil || e != api.ErrArg || s.Used() != 0 {
			t.Errorf("New(%d): %v, error %d, %d bytes drawn", mode, b, e, s.Used())
		}
		if b, e := box.New(mode, nil); b != nil || e != api.ErrArg {
			t.Errorf("New(%d) of nil: %v, error %d", mode, b, e)
		}
	}
}

// P8.1: a nil source.
func TestNewOfNilSource(t *testing.T) {
	for _, mode := range modes() {
		if b, e := box.New(mode, nil); b != nil || e != api.ErrNil {
			t.Errorf("New(%d) of nil: %v, error %d", mode, b, e)
		}
	}
}

// P8.1: a plain Source{} is one, as New of no texts.
func TestNewOfPlainSource(t *testing.T) {
	for _, mode := range modes() {
		s := &draws.Source{}
		b, e := box.New(mode, s)
		if e != api.OK {
			t.Fatalf("New(%d): error %d", mode, e)
		}
		like, _ := made(t, mode)
		if got, want := sealed(t, b, someKey(), nil, []byte("ab")), sealed(t, like, someKey(), nil, []byte("ab")); !bytes.Equal(got, want) {
			t.Errorf("mode %d: %x, want %x", mode, got, want)
		}
		if b.Key() != like.Key() || s.Used() == 0 {
			t.Errorf("mode %d: it goes on unlike", mode)
		}
	}
}

// P8.1: it goes on with that very source, from where that is: what the one told, the other tells no more.
func TestNewGoesOnWithThatSource(t *testing.T) {
	for _, mode := range modes() {
		s := draws.New([]byte("abc"), sample.Text(50))
		want := s.Clone().Take(1000)
		s.Take(7)
		b, e := box.New(mode, s)
		if e != api.OK {
			t.Fatalf("New(%d): error %d", mode, e)
		}
		at := 7
		checkState(t, "New", b, s, mode, 0, at)
		for i := range 5 {
			first := sealed(t, b, someKey(), nil, sample.Ones(i))
			drawn := drawnBytes(mode, i)
			if !bytes.Equal(first[:drawn], want[at:at+drawn]) {
				t.Errorf("mode %d: %x was drawn, want %x", mode, first[:drawn], want[at:at+drawn])
			}
			at += drawn
			checkState(t, "Seal", b, s, mode, i+1, at)
			if got := s.Take(9); !bytes.Equal(got, want[at:at+9]) {
				t.Errorf("mode %d: the source goes on with %x, want %x", mode, got, want[at:at+9])
			}
			if got := b.Draw(4); !bytes.Equal(got, want[at+9:at+13]) {
				t.Errorf("mode %d: Draw tells %x, want %x", mode, got, want[at+9:at+13])
			}
			at += 13
		}
	}
}

// drawnBytes is how many bytes are drawn for a text of n bytes.
func drawnBytes(mode, n int) int {
	if mode == box.Real {
		return 12
	}
	return n + 28
}

// P8.1: boxes of one source take turns, and know nothing of what the other sealed.
func TestBoxesOfOneSource(t *testing.T) {
	s := draws.New(sample.Text(40))
	want := s.Clone().Take(1000)
	a, _ := box.New(box.Ideal, s)
	b, _ := box.New(box.Ideal, s)
	c, _ := box.New(box.Real, s)
	x := sealed(t, a, someKey(), nil, []byte("x"))
	y := sealed(t, b, someKey(), nil, []byte("yy"))
	z := sealed(t, c, someKey(), nil, []byte("zzz"))
	if !bytes.Equal(x, want[:29]) || !bytes.Equal(y, want[29:59]) || !bytes.Equal(z[:12], want[59:71]) {
		t.Errorf("%x, %x, %x", x, y, z)
	}
	if a.Known(y) || a.Known(z) || b.Known(x) || b.Known(z) || c.Known(x) || c.Known(y) {
		t.Error("what another one sealed is known")
	}
	checkRefused(t, "the other's", a, someKey(), nil, y)
	checkRefused(t, "the other's", b, someKey(), nil, x)
	checkState(t, "the first", a, s, box.Ideal, 1, 71)
	checkState(t, "the second", b, s, box.Ideal, 1, 71)
	checkState(t, "the third", c, s, box.Real, 1, 71)
}

// Rule 1, P8.2 to P8.4: a nil box, and a plain Box{}, which stay so.
func TestNilAndPlainBox(t *testing.T) {
	other, _ := made(t, box.Real)
	good := sealed(t, other, api.Key{}, nil, []byte("ab"))
	big := make([]byte, api.MaxSized+1)
	for what, b := range map[string]*box.Box{"nil": nil, "plain": {}} {
		for range 3 {
			for _, text := range [][]byte{nil, []byte("ab"), big} {
				checkError(t, what, b, api.Key{}, nil, text, api.ErrNil)
				checkError(t, what, b, api.Key{}, text, nil, api.ErrNil)
			}
			for _, x := range [][]byte{nil, good, good[:27], make([]byte, 28), big} {
				checkRefused(t, what, b, api.Key{}, nil, x)
				if b.Known(x) {
					t.Errorf("%s: %x is known", what, sample.Some(x))
				}
			}
			for _, n := range []int{math.MinInt, -1, 0, 1, api.MaxSized, math.MaxInt} {
				if got := b.Draw(n); len(got) != 0 {
					t.Errorf("%s: Draw(%d) tells %d bytes", what, n, len(got))
				}
			}
			if k := b.Key(); k != (api.Key{}) || b.Count() != 0 || b.Mode() != 0 {
				t.Errorf("%s: the key %x, %d sealed, mode %d", what, k, b.Count(), b.Mode())
			}
		}
	}
}
