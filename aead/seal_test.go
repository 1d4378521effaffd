package aead_test

import (
	"bytes"
	"testing"

	"coffret/aead"
	"coffret/chacha"
	"coffret/sample"
)

// P6.2: the examples of RFC 8439, 2.8.2 and A.5.
func TestSealOfPublishedExamples(t *testing.T) {
	for _, c := range published() {
		if got := aead.Seal(c.k, c.n, []byte(c.beside), []byte(c.text)); hex(got) != c.laid+c.tag {
			t.Errorf("of %q: %x, want %s%s", c.text, got, c.laid, c.tag)
		}
	}
}

// P6.2: texts beside texts, each with each, nil too: what stands ahead of the tag is laid over from the block 1 on, and the tag is of that.
func TestSealIsAsTheChapterSays(t *testing.T) {
	for _, beside := range texts() {
		for _, text := range texts() {
			got := aead.Seal(someKey(), someNonce(), beside, text)
			if len(got) != len(text)+aead.Over {
				t.Fatalf("%d bytes are sealed to %d", len(text), len(got))
			}
			laid, tag := got[:len(text)], got[len(text):]
			if want := chacha.Stream(someKey(), someNonce(), 1, text); !bytes.Equal(laid, want) {
				t.Errorf("%x beside %x is laid to %x, want %x", text, beside, laid, want)
			}
			if want := plainTag(someKey(), someNonce(), beside, laid); !bytes.Equal(tag, want[:]) {
				t.Errorf("%x beside %x has the tag %x, want %x", text, beside, tag, want)
			}
		}
	}
}

// P6.2: other keys and nonces.
func TestSealByKeysAndNonces(t *testing.T) {
	for _, k := range keys() {
		for _, n := range nonces() {
			for _, size := range lengths() {
				got := aead.Seal(k, n, sample.Ones(size/2), sample.Text(size))
				if want := plainSeal(k, n, sample.Ones(size/2), sample.Text(size)); !bytes.Equal(got, want) {
					t.Errorf("by %x, %x, %d bytes: %x, want %x", k, n, size, got, want)
				}
			}
		}
	}
}

// Example 1, and the constant Over: a sealed text has Over bytes more, whatever is beside it.
func TestSealHasOverBytesMore(t *testing.T) {
	if aead.Over != 16 {
		t.Errorf("Over is %d", aead.Over)
	}
	for _, beside := range texts() {
		for _, text := range [][]byte{nil, {}, sample.Text(9)[9:]} {
			if got := aead.Seal(someKey(), someNonce(), beside, text); len(got) != 16 {
				t.Errorf("no bytes beside %x are sealed to %x", beside, got)
			}
		}
	}
	for size := range 400 {
		if got := aead.Seal(someKey(), someNonce(), nil, sample.Text(size)); len(got) != size+aead.Over {
			t.Errorf("%d bytes are sealed to %d", size, len(got))
		}
	}
}

// P6.2: what is beside a text is not in what is sealed, but for the tag.
func TestSealLeavesBesideOut(t *testing.T) {
	for _, text := range texts() {
		bare := aead.Seal(someKey(), someNonce(), nil, text)
		got := aead.Seal(someKey(), someNonce(), sample.Text(40), text)
		if at := len(text); !bytes.Equal(got[:at], bare[:at]) || bytes.Equal(got[at:], bare[at:]) {
			t.Errorf("%x is sealed to %x, and with something beside it to %x", text, bare, got)
		}
	}
}

// Rules 4 and 8: what is handed in is as it was, its spare room too, and what lies there is not read.
func TestSealTouchesNothing(t *testing.T) {
	for _, i := range lengths() {
		for _, j := range lengths() {
			beside, text := sample.Spared(sample.Text(i)), sample.Spared(sample.Ones(j))
			got := aead.Seal(someKey(), someNonce(), beside, text)
			if !sample.Untouched(beside, sample.Text(i)) || !sample.Untouched(text, sample.Ones(j)) {
				t.Errorf("%d bytes beside %d were written: %x, %x", j, i, text, beside)
			}
			if want := plainSeal(someKey(), someNonce(), sample.Text(i), sample.Ones(j)); !bytes.Equal(got, want) {
				t.Errorf("%d bytes beside %d, with spare room: %x, want %x", j, i, got, want)
			}
		}
	}
}

// Rule 4: what is handed out is new memory, its spare room too, and doesn't hang on what was handed in any more.
func TestSealHandsOutNewMemory(t *testing.T) {
	for _, size := range lengths() {
		beside, text := sample.Spared(sample.Text(size)), sample.Spared(sample.Ones(size))
		first := aead.Seal(someKey(), someNonce(), beside, text)
		second := aead.Seal(someKey(), someNonce(), beside, text)
		all := first[:cap(first)]
		for i := range all {
			all[i] = '!'
		}
		if !sample.Untouched(beside, sample.Text(size)) || !sample.Untouched(text, sample.Ones(size)) {
			t.Errorf("%d bytes that were handed in were written: %x, %x", size, text, beside)
		}
		clear(beside)
		clear(text)
		if want := plainSeal(someKey(), someNonce(), sample.Text(size), sample.Ones(size)); !bytes.Equal(second, want) {
			t.Errorf("%d bytes that were handed out share memory", size)
		}
	}
}
