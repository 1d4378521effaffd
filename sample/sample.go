// Package sample makes texts for the tests of the layers. No layer calls it.
package sample

import "bytes"

const (
	spareBytes = 64
	spareByte  = 0xEE
)

// Text is n bytes that go on differently at each place of a block.
func Text(n int) []byte {
	b := make([]byte, n)
	for i := range b {
		b[i] = byte(7*i + 3)
	}
	return b
}

// Ones is n bytes with ones in every bit.
func Ones(n int) []byte {
	return bytes.Repeat([]byte{0xff}, n)
}

// Spared is a copy of a text with known bytes in its spare room, so that a test can tell whether somebody wrote there.
func Spared(x []byte) []byte {
	return append(bytes.Clone(x), spare()...)[:len(x)]
}

// Untouched tells whether what Spared made of a text, and its spare room, are as they were.
func Untouched(b, x []byte) bool {
	return bytes.Equal(b, x) && bytes.Equal(b[len(b):len(b)+spareBytes], spare())
}

func spare() []byte {
	return bytes.Repeat([]byte{spareByte}, spareBytes)
}
