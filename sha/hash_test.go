package sha_test

import (
	"bytes"
	"testing"

	"coffret/sample"
	"coffret/sha"
)

// checkHash tells whether a Hash took in just these bytes.
func checkHash(t *testing.T, h *sha.Hash, taken []byte) {
	t.Helper()
	if got, want := h.Sum(), plainSum(taken); got != want {
		t.Errorf("the sum behind %d bytes is %x, want %x", len(taken), got, want)
	}
	if h.Len() != uint64(len(taken)) {
		t.Errorf("Len %d, want %d", h.Len(), len(taken))
	}
}

// P2.2: New.
func TestNewTookNothingIn(t *testing.T) {
	checkHash(t, sha.New(), nil)
	a, b := sha.New(), sha.New()
	a.Write([]byte("abc"))
	checkHash(t, b, nil)
	checkHash(t, a, []byte("abc"))
}

// P2.2: parts of all kinds, with the sum asked for only at the end.
func TestWriteInParts(t *testing.T) {
	for _, parts := range [][]int{
		{},
		{0},
		{0, 0, 0},
		{1},
		{0, 1, 0},
		{1, 1, 1},
		{63, 1},
		{1, 63},
		{63, 2},
		{64},
		{64, 0, 64},
		{64, 1},
		{65},
		{127, 1, 1},
		{128},
		{129},
		{30, 64, 30},
		{30, 98},
		{30, 99},
		{1, 128, 1, 62},
		{200, 0, 56},
		{55, 1, 8},
		{56, 7, 1},
		{10, 300, 10, 300},
		{1000, 24},
	} {
		h := sha.New()
		var taken []byte
		for _, n := range parts {
			part := sample.Text(len(taken) + n)[len(taken):]
			h.Write(part)
			taken = append(taken, part...)
		}
		checkHash(t, h, taken)
	}
}

// P2.2: a text cut at every two places comes to the same.
func TestWriteCutAnywhere(t *testing.T) {
	const n = 2*sha.Block + 3
	b := sample.Text(n)
	want := plainSum(b)
	for i := range n + 1 {
		for j := i; j <= n; j++ {
			h := sha.New()
			h.Write(b[:i])
			h.Write(b[i:j])
			h.Write(b[j:])
			if h.Sum() != want || h.Len() != n {
				t.Fatalf("cut at %d and %d: %x, %d bytes", i, j, h.Sum(), h.Len())
			}
		}
	}
}

// P2.2: a sum may be asked for at any time, and changes nothing.
func TestSumInBetween(t *testing.T) {
	h := sha.New()
	var taken []byte
	for i := range 3*sha.Block + 5 {
		checkHash(t, h, taken)
		checkHash(t, h, taken)
		h.Write([]byte{byte(i * 5)})
		taken = append(taken, byte(i*5))
	}
	for _, n := range []int{0, 60, 64, 65, 128, 200} {
		h.Write(sample.Text(n))
		taken = append(taken, sample.Text(n)...)
		checkHash(t, h, taken)
	}
}

// P2.2: of nil.
func TestNilHash(t *testing.T) {
	var h *sha.Hash
	checkHash(t, h, nil)
	h.Write([]byte("abc"))
	h.Write(nil)
	checkHash(t, h, nil)
}

// P2.2: a plain Hash{} is as New's.
func TestPlainHash(t *testing.T) {
	var none sha.Hash
	checkHash(t, &none, nil)
	for _, n := range []int{0, 1, 55, 56, 63, 64, 65, 119, 120, 128, 200} {
		h := &sha.Hash{}
		h.Write(sample.Text(n))
		checkHash(t, h, sample.Text(n))
		h.Write([]byte("abc"))
		checkHash(t, h, append(sample.Text(n), "abc"...))
	}
}

// What was written is not kept: who changes it then does not change the sum.
func TestWriteKeepsNothing(t *testing.T) {
	for _, n := range []int{1, 63, 64, 65, 100} {
		h := sha.New()
		b := sample.Text(n)
		h.Write(b)
		clear(b)
		h.Write([]byte("x"))
		checkHash(t, h, append(sample.Text(n), 'x'))
	}
}

// A sum that was handed out stays as it was.
func TestSumIsHandedOutAsAValue(t *testing.T) {
	h := sha.New()
	h.Write([]byte("abc"))
	sum := h.Sum()
	h.Write(bytes.Repeat([]byte("d"), 100))
	h.Sum()
	if sum != plainSum([]byte("abc")) {
		t.Error("a sum changed behind its back")
	}
	for i := range sum {
		sum[i] = 0
	}
	checkHash(t, h, append([]byte("abc"), bytes.Repeat([]byte("d"), 100)...))
}
