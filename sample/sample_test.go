package sample_test

import (
	"slices"
	"testing"

	"coffret/sample"
)

// What somebody wrote into a text, or behind it, is told; what is left alone too.
func TestUntouched(t *testing.T) {
	for _, n := range []int{0, 1, 16, 65} {
		b := sample.Spared(sample.Text(n))
		if !sample.Untouched(b, sample.Text(n)) {
			t.Errorf("%d bytes were left alone", n)
		}
		for i := range n + 64 {
			b := sample.Spared(sample.Text(n))
			b[:n+64][i]++
			if sample.Untouched(b, sample.Text(n)) {
				t.Errorf("%d bytes, written at %d", n, i)
			}
		}
	}
}

// A text is another one at each place of a block of 64 bytes.
func TestText(t *testing.T) {
	seen := map[byte]bool{}
	for _, x := range sample.Text(64) {
		if seen[x] {
			t.Errorf("%d stands there twice", x)
		}
		seen[x] = true
	}
	for i, x := range sample.Ones(3) {
		if x != 255 {
			t.Errorf("at %d: %d", i, x)
		}
	}
}

// A bit turned, a byte less or more: all are others than the text, which is as it was.
func TestOthers(t *testing.T) {
	text := sample.Spared([]byte("abc"))
	for _, c := range []struct {
		got  []byte
		want string
	}{
		{sample.Turned(text, 0), "`bc"},
		{sample.Turned(text, 9), "a`c"},
		{sample.Turned(text, 23), "ab\xe3"},
		{sample.Without(text, 0), "bc"},
		{sample.Without(text, 1), "ac"},
		{sample.Without(text, 2), "ab"},
		{sample.With(text, 0, 'x'), "xabc"},
		{sample.With(text, 2, 'x'), "abxc"},
		{sample.With(text, 3, 'x'), "abcx"},
		{sample.Some(text), "abc"},
		{sample.Some(sample.Ones(101)), string(sample.Ones(100))},
	} {
		if string(c.got) != c.want {
			t.Errorf("%q, want %q", c.got, c.want)
		}
	}
	if !sample.Untouched(text, []byte("abc")) {
		t.Errorf("the text is %q", text)
	}
}

// All of a list is written over, what lies behind its length too, and nothing else.
func TestOverwrite(t *testing.T) {
	all := []int{1, 2, 3, 4, 5}
	sample.Overwrite(all[1:2:4], 9)
	sample.Overwrite(all[:0:0], 8)
	if !slices.Equal(all, []int{1, 9, 9, 9, 5}) {
		t.Errorf("the list is %d", all)
	}
}
