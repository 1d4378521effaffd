package box_test

import (
	"bytes"
	"math"
	"testing"

	"coffret/api"
	"coffret/box"
	"coffret/sample"
)

// P8.4: Draw is the source's Take, below 1, at MaxSized and above it too.
func TestDrawIsTake(t *testing.T) {
	for _, mode := range modes() {
		b, s := made(t, mode, sample.Text(70))
		like := s.Clone()
		for _, n := range []int{1, 2, 31, 32, 33, 100, 0, -1, math.MinInt, api.MaxSized - 1, api.MaxSized, api.MaxSized + 1, math.MaxInt, 5} {
			if got, want := b.Draw(n), like.Take(n); !bytes.Equal(got, want) {
				t.Errorf("mode %d: Draw(%d) tells %d bytes, %x, want %d, %x", mode, n, len(got), sample.Some(got), len(want), sample.Some(want))
			}
			checkState(t, "Draw", b, s, mode, 0, like.Used())
		}
	}
}

// P8.4: Key is the source's, wherever that is.
func TestKeyIsTheSources(t *testing.T) {
	for _, mode := range modes() {
		b, s := made(t, mode, sample.Text(70))
		like := s.Clone()
		for n := range 40 {
			if got, want := b.Key(), like.Key(); got != want {
				t.Errorf("mode %d: the key %d is %x, want %x", mode, n, got, want)
			}
			b.Draw(n)
			like.Take(n)
			checkState(t, "Key", b, s, mode, 0, like.Used())
		}
	}
}

// P8.4: what was drawn, as bytes or as a key, was not sealed, and texts and keys were not either.
func TestKnownIsWhatWasSealedHere(t *testing.T) {
	for _, mode := range modes() {
		b, _ := made(t, mode)
		var list [][]byte
		for i := range 50 {
			text := sample.Text(i)
			k := b.Key()
			drawn := b.Draw(i + 28)
			for _, x := range [][]byte{k[:], drawn, text, nil} {
				if b.Known(x) {
					t.Errorf("mode %d: %x is known", mode, x)
				}
			}
			list = append(list, sealed(t, b, k, drawn, text))
			for _, x := range list {
				if !b.Known(x) || b.Known(x[1:]) || b.Known(x[:len(x)-1]) || b.Known(sample.With(x, len(x), 0)) || b.Known(sample.Turned(x, i)) {
					t.Errorf("mode %d: of %x, or of another, it is not told", mode, x)
				}
			}
			if b.Count() != i+1 {
				t.Errorf("mode %d: %d were sealed, it says %d", mode, i+1, b.Count())
			}
		}
	}
}

// P8.4: Known is of all the bytes of a sealed text as great as may be.
func TestKnownOfGreatTexts(t *testing.T) {
	for _, mode := range modes() {
		b, _ := made(t, mode)
		x := sealed(t, b, someKey(), nil, sample.Text(api.MaxSized))
		for _, i := range []int{0, 8 * 12, 8 * 4000, 8*len(x) - 8*28, 8*len(x) - 1} {
			if b.Known(sample.Turned(x, i)) {
				t.Errorf("mode %d: with the bit %d turned it is known", mode, i)
			}
			checkRefused(t, "turned", b, someKey(), nil, sample.Turned(x, i))
		}
		if b.Known(x[:api.MaxSized]) {
			t.Errorf("mode %d: its beginning is known", mode)
		}
	}
}

// steps tells numbers that go on and on, by a rule.
type steps uint32

func (s *steps) next(below int) int {
	*s = *s*1664525 + 1013904223
	return int(*s>>8) % below
}

// P8.1 to P8.5: plays of all calls, held against the chapter taken word by word; their draws come again and again.
func TestPlays(t *testing.T) {
	for _, mode := range modes() {
		came := map[api.Errno]int{}
		for play := range 40 {
			turn := steps(1000*mode + play)
			c := paired(t, mode, repeats(&turn, 4000))
			for range 200 {
				came[step(t, c, &turn)]++
			}
			for _, x := range c.p.list {
				c.open(t, x.key, x.beside, x.sealed)
			}
		}
		if came[api.ErrBig] == 0 || (came[api.ErrFull] > 0) != (mode == box.Ideal) {
			t.Errorf("mode %d: the plays came to %v", mode, came)
		}
	}
}

// repeats are bytes of few kinds in runs, so that what is drawn was often drawn already.
func repeats(turn *steps, size int) []byte {
	var b []byte
	for len(b) < size {
		b = append(b, bytes.Repeat([]byte{byte(turn.next(2))}, 28*(1+turn.next(5)))...)
	}
	return b
}

// step does one call, and tells what error it came to.
func step(t *testing.T, c pair, turn *steps) (e api.Errno) {
	t.Helper()
	k := api.Key{31: byte(turn.next(2))}
	beside := sample.Text(turn.next(2))
	switch turn.next(8) {
	case 0:
		n := turn.next(30) - 1
		if got, want := c.b.Draw(n), c.p.draw(max(n, 0)); !bytes.Equal(got, want) {
			t.Errorf("Draw(%d) tells %x, want %x", n, got, want)
		}
	case 1:
		if got, want := c.b.Key(), c.p.draw(32); !bytes.Equal(got[:], want) {
			t.Errorf("the key is %x, want %x", got, want)
		}
	case 2:
		_, e = c.seal(t, k, make([]byte, api.MaxSized+turn.next(2)), sample.Text(turn.next(3)))
	case 3, 4:
		_, e = c.seal(t, k, beside, sample.Ones(turn.next(3)))
	case 5:
		c.open(t, k, beside, bytes.Repeat([]byte{byte(turn.next(2))}, 27+turn.next(4)))
	default:
		if len(c.p.list) > 0 {
			c.open(t, k, beside, c.p.list[turn.next(len(c.p.list))].sealed)
		}
	}
	c.same(t, "a step")
	return e
}
