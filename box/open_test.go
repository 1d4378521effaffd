package box_test

import (
	"bytes"
	"testing"

	"coffret/aead"
	"coffret/api"
	"coffret/box"
	"coffret/chacha"
	"coffret/sample"
)

// P8.3, P8.5: what is sealed is opened as it was, in both modes, as often as it is asked, behind whatever else was sealed.
func TestOpenOfWhatIsSealed(t *testing.T) {
	for _, mode := range modes() {
		c := paired(t, mode)
		for _, k := range keys() {
			for i, text := range texts() {
				c.seal(t, k, sample.Text(i), text)
			}
		}
		used := c.s.Used()
		for range 2 {
			for _, x := range c.p.list {
				checkOpened(t, "sealed", c.b, x.key, x.beside, x.sealed, x.text)
			}
		}
		checkState(t, "opened", c.b, c.s, mode, len(c.p.list), used)
	}
}

// P8.3, P8.5: none is opened as another was sealed: each sealed text by each one's key and beside.
func TestOpenOfEachAsEach(t *testing.T) {
	for _, mode := range modes() {
		c := paired(t, mode)
		for _, k := range keys() {
			for _, beside := range [][]byte{nil, []byte("x"), []byte("y"), sample.Text(31), sample.Text(32)} {
				c.seal(t, k, beside, []byte("ab"))
				c.seal(t, k, beside, beside)
			}
		}
		for _, x := range c.p.list {
			for _, y := range c.p.list {
				c.open(t, x.key, x.beside, y.sealed)
			}
		}
	}
}

// P8.3: nil beside is as good as no bytes beside, and a text of no bytes is one.
func TestOpenOfNothing(t *testing.T) {
	for _, mode := range modes() {
		for _, beside := range [][]byte{nil, {}, sample.Text(9)[9:]} {
			for _, text := range [][]byte{nil, {}, sample.Text(9)[:0]} {
				b, _ := made(t, mode)
				x := sealed(t, b, someKey(), beside, text)
				for _, other := range [][]byte{nil, {}, sample.Text(9)[:0]} {
					checkOpened(t, "nothing", b, someKey(), other, x, nil)
				}
			}
		}
	}
}

// P8.3, P8.5: by another key, by any one bit, and by those of others.
func TestOpenByAnotherKey(t *testing.T) {
	for _, mode := range modes() {
		for _, n := range []int{0, 1, 40} {
			b, _ := made(t, mode)
			k := someKey()
			x := sealed(t, b, k, []byte("x"), sample.Text(n))
			for i := range 8 * len(k) {
				checkRefused(t, "by another key", b, api.Key(sample.Turned(k[:], i)), []byte("x"), x)
			}
			for _, other := range keys() {
				if other != k {
					checkRefused(t, "by another key", b, other, []byte("x"), x)
				}
			}
			checkOpened(t, "by its key", b, k, []byte("x"), x, sample.Text(n))
		}
	}
}

// P8.3, P8.5: with another beside: any one bit turned, a byte less or more at any place, nothing, zeros, the text, or the sealed text.
func TestOpenBesideAnother(t *testing.T) {
	for _, mode := range modes() {
		for _, n := range []int{1, 2, 16, 33} {
			beside := sample.Text(n)
			b, _ := made(t, mode)
			x := sealed(t, b, someKey(), beside, sample.Ones(20))
			others := [][]byte{nil, {}, make([]byte, n), sample.With(beside, n, 0), append(bytes.Clone(beside), beside...), sample.Ones(20), x, sample.Text(api.MaxSized + 1)}
			for i := range 8 * n {
				others = append(others, sample.Turned(beside, i))
			}
			for at := range n {
				others = append(others, sample.Without(beside, at), sample.With(beside, at, 0))
			}
			for _, other := range others {
				checkRefused(t, "beside another", b, someKey(), other, x)
			}
			checkOpened(t, "beside its own", b, someKey(), beside, x, sample.Ones(20))
		}
		b, _ := made(t, mode)
		x := sealed(t, b, someKey(), nil, []byte("ab"))
		for n := 1; n < 40; n++ {
			checkRefused(t, "beside zeros", b, someKey(), make([]byte, n), x)
		}
	}
}

// P8.3 to P8.5: of bytes that were not sealed: any one bit turned, a byte less or more at any place, or other bytes.
func TestOpenOfWhatWasNotSealed(t *testing.T) {
	for _, mode := range modes() {
		for _, n := range []int{0, 1, 20} {
			b, s := made(t, mode)
			x := sealed(t, b, someKey(), []byte("x"), sample.Text(n))
			others := [][]byte{nil, {}, make([]byte, len(x)), sample.Text(n), sample.Ones(n + 28), append(bytes.Clone(x), x...), sample.With(x, len(x), 0), b.Draw(n + 28)}
			for i := range 8 * len(x) {
				others = append(others, sample.Turned(x, i))
			}
			for at := range x {
				others = append(others, sample.Without(x, at), sample.With(x, at, 0), sample.With(x, at, ^x[at]), x[:at], x[at+1:])
			}
			used := s.Used()
			for _, other := range others {
				checkRefused(t, "not sealed", b, someKey(), []byte("x"), other)
				if b.Known(other) {
					t.Errorf("mode %d: %x is known", mode, other)
				}
			}
			checkState(t, "not sealed", b, s, mode, 1, used)
			checkOpened(t, "sealed", b, someKey(), []byte("x"), x, sample.Text(n))
		}
	}
}

// P8.3: of fewer than Over bytes, in both modes, though there be a tag in them that is right.
func TestOpenOfTooFewBytes(t *testing.T) {
	for _, mode := range modes() {
		b, _ := made(t, mode)
		x := sealed(t, b, someKey(), nil, nil)
		for n := range 28 {
			for _, few := range [][]byte{make([]byte, n), sample.Ones(n), sample.Text(n), x[:n], x[28-n:]} {
				checkRefused(t, "too few", b, someKey(), nil, few)
			}
		}
		tag := aead.Seal(someKey(), chacha.Nonce{}, nil, nil)
		for n := range 12 {
			checkRefused(t, "too few", b, someKey(), nil, append(make([]byte, n), tag...))
		}
		checkOpened(t, "just enough", b, someKey(), nil, x, nil)
	}
}

// P8.3, Real: any box of that mode opens it by its key, though it doesn't know it; one of the mode Ideal doesn't.
func TestOpenRealByAnotherBox(t *testing.T) {
	for _, k := range keys() {
		for _, text := range texts() {
			b, _ := made(t, box.Real, []byte("some"))
			x := sealed(t, b, k, text, text)
			other, s := made(t, box.Real, []byte("other"))
			ideal, _ := made(t, box.Ideal, x)
			checkOpened(t, "another box", other, k, text, x, text)
			checkRefused(t, "another mode", ideal, k, text, x)
			if other.Known(x) || ideal.Known(x) {
				t.Errorf("%x is known to others", x)
			}
			checkState(t, "another box", other, s, box.Real, 0, 0)
		}
	}
}

// P8.3, Real: what aead sealed is opened too, of any length, with any beside.
func TestOpenRealOfWhatTheCipherSealed(t *testing.T) {
	b, s := made(t, box.Real)
	for _, n := range append(lengths(), api.MaxSized, api.MaxSized+1, 100000) {
		nonce := sample.Ones(12)
		x := append(bytes.Clone(nonce), aead.Seal(someKey(), chacha.Nonce(nonce), sample.Text(n), sample.Ones(n))...)
		checkOpened(t, "the cipher's", b, someKey(), sample.Text(n), x, sample.Ones(n))
		if b.Known(x) {
			t.Errorf("%d bytes: it is known", n)
		}
	}
	checkState(t, "the cipher's", b, s, box.Real, 0, 0)
}

// P8.5, Ideal: just the box that sealed it opens it: not one that drew the same, nor one that sealed the same to other bytes, nor one of the mode Real.
func TestOpenIdealByAnotherBox(t *testing.T) {
	for _, text := range texts() {
		b, _ := made(t, box.Ideal, []byte("some"))
		x := sealed(t, b, someKey(), nil, text)
		fresh, _ := made(t, box.Ideal, []byte("some"))
		checkRefused(t, "one that sealed nothing", fresh, someKey(), nil, x)
		fresh.Draw(len(x))
		sealed(t, fresh, someKey(), nil, text)
		checkRefused(t, "one that sealed it to other bytes", fresh, someKey(), nil, x)
		alike, _ := made(t, box.Ideal, []byte("some"))
		sealed(t, alike, api.Key{1}, nil, text)
		checkRefused(t, "one that sealed it by another key", alike, someKey(), nil, x)
		cipher, _ := made(t, box.Real, []byte("some"))
		sealed(t, cipher, someKey(), nil, text)
		checkRefused(t, "one of the mode Real", cipher, someKey(), nil, x)
	}
}

// P8.5, Ideal: what aead sealed is not opened.
func TestOpenIdealOfWhatTheCipherSealed(t *testing.T) {
	b, _ := made(t, box.Ideal, make([]byte, 12))
	for _, n := range lengths() {
		x := append(make([]byte, 12), aead.Seal(someKey(), chacha.Nonce{}, nil, sample.Text(n))...)
		checkRefused(t, "the cipher's", b, someKey(), nil, x)
	}
}

// Rules 4 and 8: what is handed in to Open and Known is as it was, where it is refused too.
func TestOpenTouchesNothing(t *testing.T) {
	for _, mode := range modes() {
		b, _ := made(t, mode)
		for _, n := range lengths() {
			x := sealed(t, b, someKey(), sample.Text(n), sample.Ones(n))
			for _, text := range [][]byte{x, sample.Turned(x, n%8), x[:27], nil} {
				beside, spared := sample.Spared(sample.Text(n)), sample.Spared(text)
				b.Open(someKey(), beside, spared)
				b.Known(spared)
				if !sample.Untouched(beside, sample.Text(n)) || !sample.Untouched(spared, text) {
					t.Errorf("mode %d: %x beside %x", mode, spared, beside)
				}
			}
		}
	}
}
