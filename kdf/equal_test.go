package kdf_test

import (
	"testing"

	"coffret/kdf"
	"coffret/sample"
)

// checkEqual tells whether two texts are told to be the same, or not, from both sides.
func checkEqual(t *testing.T, a, b []byte, want bool) {
	t.Helper()
	if kdf.Equal(a, b) != want || kdf.Equal(b, a) != want {
		t.Errorf("Equal of %d and %d bytes %.20x, %.20x is not %v", len(a), len(b), a, b, want)
	}
}

// P3.4: nil is a text of no bytes.
func TestEqualOfNothing(t *testing.T) {
	checkEqual(t, nil, nil, true)
	checkEqual(t, nil, []byte{}, true)
	checkEqual(t, []byte{}, []byte{}, true)
	for _, n := range []int{1, 2, 255, 256, 257, 65536} {
		checkEqual(t, nil, make([]byte, n), false)
		checkEqual(t, []byte{}, sample.Text(n), false)
	}
}

// P3.4: texts of one length, that differ in any one bit of any one byte.
func TestEqualLooksAtEveryByte(t *testing.T) {
	for _, n := range []int{1, 2, 3, 16, 32, 33, 64, 300} {
		a, b := sample.Text(n), sample.Text(n)
		checkEqual(t, a, b, true)
		checkEqual(t, a, a, true)
		for i := range b {
			for bit := range 8 {
				b[i] ^= 1 << bit
				checkEqual(t, a, b, false)
				b[i] ^= 1 << bit
			}
		}
		checkEqual(t, a, b, true)
	}
}

// P3.4: bytes that differ twice, by the same, are not the same.
func TestEqualOfTextsThatDifferTwice(t *testing.T) {
	for i := range 32 {
		for j := range i {
			a, b := sample.Text(32), sample.Text(32)
			b[i] ^= 0x55
			b[j] ^= 0x55
			checkEqual(t, a, b, false)
			b[j] ^= 0x55 ^ 0xAA
			checkEqual(t, a, b, false)
		}
	}
	checkEqual(t, []byte("ab"), []byte("ba"), false)
}

// P3.4: a text isn't another that it begins, zeros or not.
func TestEqualOfOtherLengths(t *testing.T) {
	for n := range 70 {
		for m := range n {
			checkEqual(t, sample.Text(n), sample.Text(m), false)
			checkEqual(t, make([]byte, n), make([]byte, m), false)
		}
	}
	checkEqual(t, sample.Text(256), sample.Text(512), false)
	checkEqual(t, make([]byte, 1), make([]byte, 257), false)
}

// What lies behind a text's length neither counts nor is touched.
func TestEqualLooksAtTheLengthAlone(t *testing.T) {
	for _, n := range []int{0, 1, 32, 65} {
		a, b := sample.Spared(sample.Text(n)), sample.Spared(sample.Text(n))
		b[:n+1][n] = 0xDD
		checkEqual(t, a, b, true)
		b[:n+1][n] = 0xEE
		checkEqual(t, a, a[:n+1], false)
		checkSpared(t, "first", a, sample.Text(n))
		checkSpared(t, "second", b, sample.Text(n))
	}
}
