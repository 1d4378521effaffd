// Package sample makes texts for the tests of the layers. No layer calls it.
package sample

import "bytes"

const (
	spareBytes = 64
	spareByte  = 0xEE
	shownBytes = 100
)

// Text is n bytes that go on differently at each place of a block.
func Text(n int) []byte {
	b := make([]byte, n)
	for i := range b {
		b[i] = byte(7*i + 3)
	}
	return b
}

// Ones is n bytes with ones in every bit.
func Ones(n int) []byte {
	return bytes.Repeat([]byte{0xff}, n)
}

// Spared is a copy of a text with known bytes in its spare room, so that a test can tell whether somebody wrote there.
func Spared(x []byte) []byte {
	return append(bytes.Clone(x), spare()...)[:len(x)]
}

// Untouched tells whether what Spared made of a text, and its spare room, are as they were.
func Untouched(b, x []byte) bool {
	return bytes.Equal(b, x) && bytes.Equal(b[len(b):len(b)+spareBytes], spare())
}

// Turned is a copy of a text with one bit turned, that of the number i.
func Turned(b []byte, i int) []byte {
	other := bytes.Clone(b)
	other[i/8] ^= 1 << (i % 8)
	return other
}

// Without is a copy of a text without the byte at a place.
func Without(b []byte, at int) []byte {
	return append(bytes.Clone(b[:at]), b[at+1:]...)
}

// With is a copy of a text with one more byte at a place.
func With(b []byte, at int, x byte) []byte {
	return append(append(bytes.Clone(b[:at]), x), b[at:]...)
}

// Overwrite writes over all of a list, its spare room too.
func Overwrite[T any](l []T, x T) {
	l = l[:cap(l)]
	for i := range l {
		l[i] = x
	}
}

// Some is the beginning of a text, short enough to be shown.
func Some(b []byte) []byte {
	return b[:min(len(b), shownBytes)]
}

func spare() []byte {
	return bytes.Repeat([]byte{spareByte}, spareBytes)
}
