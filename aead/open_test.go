package aead_test

import (
	"bytes"
	"testing"

	"coffret/aead"
	"coffret/api"
	"coffret/chacha"
	"coffret/sample"
)

// P6.2: the examples of RFC 8439, 2.8.2 and A.5.
func TestOpenOfPublishedExamples(t *testing.T) {
	for _, c := range published() {
		sealed := aead.Seal(c.k, c.n, []byte(c.beside), []byte(c.text))
		if hex(sealed) != c.laid+c.tag {
			t.Errorf("%q is sealed to %x", c.text, sealed)
		}
		checkOpened(t, c.k, c.n, []byte(c.beside), sealed, []byte(c.text))
	}
}

// P6.3: what is sealed is opened: texts beside texts, each with each, nil too.
func TestOpenOfWhatIsSealed(t *testing.T) {
	for _, beside := range texts() {
		for _, text := range texts() {
			checkOpened(t, someKey(), someNonce(), beside, aead.Seal(someKey(), someNonce(), beside, text), text)
		}
	}
}

// P6.3: other keys and nonces, and a text of many blocks.
func TestOpenByKeysAndNonces(t *testing.T) {
	for _, k := range keys() {
		for _, n := range nonces() {
			for _, size := range append(lengths(), 5000) {
				checkOpened(t, k, n, sample.Ones(size/2), aead.Seal(k, n, sample.Ones(size/2), sample.Text(size)), sample.Text(size))
			}
		}
	}
}

// P6.2: whatever has its tag behind it is opened, though nobody sealed it.
func TestOpenHangsOnTheTagAlone(t *testing.T) {
	for _, beside := range texts() {
		for _, laid := range texts() {
			tag := plainTag(someKey(), someNonce(), beside, laid)
			sealed := append(bytes.Clone(laid), tag[:]...)
			checkOpened(t, someKey(), someNonce(), beside, sealed, chacha.Stream(someKey(), someNonce(), 1, laid))
		}
	}
}

// P6.2: nil beside is as good as no bytes beside.
func TestOpenWithNothingBeside(t *testing.T) {
	for _, text := range texts() {
		checkOpened(t, someKey(), someNonce(), []byte{}, aead.Seal(someKey(), someNonce(), nil, text), text)
		checkOpened(t, someKey(), someNonce(), nil, aead.Seal(someKey(), someNonce(), []byte{}, text), text)
	}
}

// P6.2: fewer than 16 bytes are refused: zeros, ones, and what a sealed text, or a tag, begins or ends with.
func TestOpenOfTooFewBytes(t *testing.T) {
	checkRefused(t, "nil", someKey(), someNonce(), nil, nil)
	for _, beside := range texts() {
		sealed := aead.Seal(someKey(), someNonce(), beside, nil)
		for size := range 16 {
			for _, b := range [][]byte{make([]byte, size), sample.Ones(size), sample.Text(size), sealed[:size], sealed[16-size:]} {
				checkRefused(t, "too few", someKey(), someNonce(), beside, b)
			}
		}
	}
}

// P6.2: 16 bytes are enough for a tag, but it is to be the right one.
func TestOpenOfATagAlone(t *testing.T) {
	for _, b := range [][]byte{make([]byte, 16), sample.Ones(16), sample.Text(16)} {
		checkRefused(t, "a tag", someKey(), someNonce(), nil, b)
	}
	tag := plainTag(someKey(), someNonce(), nil, nil)
	checkOpened(t, someKey(), someNonce(), nil, tag[:], nil)
}

// P6.2: another key, by any one bit, and those of others.
func TestOpenByAnotherKey(t *testing.T) {
	for _, size := range lengths() {
		sealed := aead.Seal(someKey(), someNonce(), sample.Ones(5), sample.Text(size))
		k := someKey()
		for i := range 8 * len(k) {
			checkRefused(t, "by another key", api.Key(sample.Turned(k[:], i)), someNonce(), sample.Ones(5), sealed)
		}
		for _, other := range keys() {
			if other != k {
				checkRefused(t, "by another key", other, someNonce(), sample.Ones(5), sealed)
			}
		}
	}
}

// P6.2: another nonce, by any one bit, and others.
func TestOpenByAnotherNonce(t *testing.T) {
	for _, size := range lengths() {
		sealed := aead.Seal(someKey(), someNonce(), sample.Ones(5), sample.Text(size))
		n := someNonce()
		for i := range 8 * len(n) {
			checkRefused(t, "by another nonce", someKey(), chacha.Nonce(sample.Turned(n[:], i)), sample.Ones(5), sealed)
		}
		for _, other := range nonces() {
			if other != n {
				checkRefused(t, "by another nonce", someKey(), other, sample.Ones(5), sealed)
			}
		}
	}
}

// P6.2: another beside: any one bit turned, a byte less or more at any place, nothing, or the text itself.
func TestOpenBesideAnother(t *testing.T) {
	for _, size := range []int{1, 15, 16, 17, 32, 33} {
		beside := sample.Text(size)
		sealed := aead.Seal(someKey(), someNonce(), beside, sample.Ones(20))
		refuse := func(other []byte) {
			t.Helper()
			checkRefused(t, "beside another", someKey(), someNonce(), other, sealed)
		}
		for i := range 8 * size {
			refuse(sample.Turned(beside, i))
		}
		for at := range size {
			refuse(sample.Without(beside, at))
			refuse(sample.With(beside, at, 0))
		}
		refuse(sample.With(beside, size, 0))
		refuse(sample.With(beside, size, 0xff))
		refuse(nil)
		refuse(make([]byte, size))
		refuse(append(bytes.Clone(beside), beside...))
		refuse(sealed)
	}
	sealed := aead.Seal(someKey(), someNonce(), nil, sample.Ones(20))
	for size := 1; size < 40; size++ {
		checkRefused(t, "beside zeros", someKey(), someNonce(), make([]byte, size), sealed)
	}
}

// P6.2: any one byte of the sealed text turned, by each bit, and by all of them, the tag's too.
func TestOpenOfATurnedByte(t *testing.T) {
	for _, size := range lengths() {
		sealed := aead.Seal(someKey(), someNonce(), sample.Ones(5), sample.Text(size))
		for i := range 8 * len(sealed) {
			checkRefused(t, "a bit turned", someKey(), someNonce(), sample.Ones(5), sample.Turned(sealed, i))
		}
		for at := range sealed {
			other := bytes.Clone(sealed)
			other[at] ^= 0xff
			checkRefused(t, "a byte turned", someKey(), someNonce(), sample.Ones(5), other)
		}
	}
}

// P6.2: two bytes of the tag turned by the same are refused too.
func TestOpenOfATagTurnedTwice(t *testing.T) {
	sealed := aead.Seal(someKey(), someNonce(), nil, sample.Text(20))
	for i := range aead.Over {
		for j := range i {
			other := bytes.Clone(sealed)
			other[20+i] ^= 0x55
			other[20+j] ^= 0x55
			checkRefused(t, "two bytes of the tag turned", someKey(), someNonce(), nil, other)
		}
	}
}

// P6.2: a byte less or more, at any place, and more of them at either end.
func TestOpenOfAnotherLength(t *testing.T) {
	for _, size := range lengths() {
		sealed := aead.Seal(someKey(), someNonce(), sample.Ones(5), sample.Text(size))
		refuse := func(other []byte) {
			t.Helper()
			checkRefused(t, "another length", someKey(), someNonce(), sample.Ones(5), other)
		}
		for at := range sealed {
			refuse(sample.Without(sealed, at))
			refuse(sample.With(sealed, at, 0))
			refuse(sample.With(sealed, at, 0xff))
		}
		refuse(sample.With(sealed, len(sealed), 0))
		refuse(sample.With(sealed, len(sealed), 0xff))
		for n := 1; n <= len(sealed); n++ {
			refuse(sealed[n:])
			refuse(sealed[:len(sealed)-n])
		}
		refuse(append(bytes.Clone(sealed), make([]byte, 16)...))
		refuse(append(bytes.Clone(sealed), sealed...))
	}
}

// P6.2: the text and its tag in each other's place, another text's tag, and the text that was not sealed.
func TestOpenOfPartsOutOfPlace(t *testing.T) {
	for _, size := range []int{1, 15, 16, 17, 33} {
		text := sample.Text(size)
		sealed := aead.Seal(someKey(), someNonce(), nil, text)
		other := aead.Seal(someKey(), someNonce(), nil, sample.Ones(size))
		laid, tag := sealed[:size], sealed[size:]
		for _, b := range [][]byte{
			append(bytes.Clone(tag), laid...),
			append(bytes.Clone(other[:size]), tag...),
			append(bytes.Clone(laid), other[size:]...),
			append(bytes.Clone(text), tag...),
		} {
			if !bytes.Equal(b, sealed) {
				checkRefused(t, "out of place", someKey(), someNonce(), nil, b)
			}
		}
	}
}

// P6.2: what stood beside a text is not taken for the beginning of it, nor the other way round.
func TestOpenWhereBesideIsMoved(t *testing.T) {
	whole := sample.Text(48)
	for at := range len(whole) + 1 {
		tag := aead.Tag(someKey(), someNonce(), whole[:at], whole[at:])
		for to := range len(whole) + 1 {
			if to != at {
				checkRefused(t, "moved", someKey(), someNonce(), whole[:to], append(bytes.Clone(whole[to:]), tag[:]...))
			}
		}
	}
}

// Rules 4 and 8: what is handed in is as it was, its spare room too, whether it is opened or not, and what lies there is not read.
func TestOpenTouchesNothing(t *testing.T) {
	for _, i := range lengths() {
		for _, j := range lengths() {
			whole := plainSeal(someKey(), someNonce(), sample.Text(i), sample.Ones(j))
			for _, good := range []bool{true, false} {
				k := someKey()
				if !good {
					k[0]++
				}
				beside, sealed := sample.Spared(sample.Text(i)), sample.Spared(whole)
				text, ok := aead.Open(k, someNonce(), beside, sealed)
				if ok != good || good && !bytes.Equal(text, sample.Ones(j)) {
					t.Errorf("%d bytes beside %d, with spare room: %x, %v", j, i, text, ok)
				}
				if !sample.Untouched(beside, sample.Text(i)) || !sample.Untouched(sealed, whole) {
					t.Errorf("%d bytes beside %d were written: %x, %x", j, i, sealed, beside)
				}
			}
		}
	}
}

// Rule 4: what is handed out is new memory, its spare room too, and doesn't hang on what was handed in any more.
func TestOpenHandsOutNewMemory(t *testing.T) {
	for _, size := range lengths() {
		whole := plainSeal(someKey(), someNonce(), nil, sample.Text(size))
		sealed := sample.Spared(whole)
		first, _ := aead.Open(someKey(), someNonce(), nil, sealed)
		second, _ := aead.Open(someKey(), someNonce(), nil, sealed)
		all := first[:cap(first)]
		for i := range all {
			all[i] = '!'
		}
		if !sample.Untouched(sealed, whole) {
			t.Errorf("%d bytes that were handed in were written: %x", size, sealed)
		}
		clear(sealed)
		if !bytes.Equal(second, sample.Text(size)) {
			t.Errorf("%d bytes that were handed out share memory", size)
		}
	}
}

// Rule 5: a text that was refused leaves nothing behind; the next one is opened.
func TestOpenBehindARefusal(t *testing.T) {
	sealed := aead.Seal(someKey(), someNonce(), sample.Text(9), sample.Text(50))
	for size := range 40 {
		checkRefused(t, "zeros", someKey(), someNonce(), sample.Text(9), make([]byte, size))
		checkOpened(t, someKey(), someNonce(), sample.Text(9), sealed, sample.Text(50))
	}
}
