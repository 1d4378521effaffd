package sample_test

import (
	"testing"

	"coffret/sample"
)

// What somebody wrote into a text, or behind it, is told; what is left alone too.
func TestUntouched(t *testing.T) {
	for _, n := range []int{0, 1, 16, 65} {
		b := sample.Spared(sample.Text(n))
		if !sample.Untouched(b, sample.Text(n)) {
			t.Errorf("%d bytes were left alone", n)
		}
		for i := range n + 64 {
			b := sample.Spared(sample.Text(n))
			b[:n+64][i]++
			if sample.Untouched(b, sample.Text(n)) {
				t.Errorf("%d bytes, written at %d", n, i)
			}
		}
	}
}

// A text is another one at each place of a block of 64 bytes.
func TestText(t *testing.T) {
	seen := map[byte]bool{}
	for _, x := range sample.Text(64) {
		if seen[x] {
			t.Errorf("%d stands there twice", x)
		}
		seen[x] = true
	}
	for i, x := range sample.Ones(3) {
		if x != 255 {
			t.Errorf("at %d: %d", i, x)
		}
	}
}
