package poly_test

import (
	"testing"

	"coffret/poly"
	"coffret/sample"
)

// P5.1: of all bits there are left those that the chapter leaves as they are.
func TestClampOfZerosAndOnes(t *testing.T) {
	if got := poly.Clamp([16]byte{}); got != [16]byte{} {
		t.Errorf("of zeros: %x", got)
	}
	want := [16]byte{0xff, 0xff, 0xff, 0x0f, 0xfc, 0xff, 0xff, 0x0f, 0xfc, 0xff, 0xff, 0x0f, 0xfc, 0xff, 0xff, 0x0f}
	if got := poly.Clamp(onesHalf()); got != want {
		t.Errorf("of ones: %x, want %x", got, want)
	}
}

// P5.1: each bit alone, and each left out of all others.
func TestClampOfEachBit(t *testing.T) {
	kept := 0
	for i := range 128 {
		one := bitHalf(i)
		got := poly.Clamp(one)
		if want := plainClamp(one); got != want {
			t.Errorf("of the bit %d: %x, want %x", i, got, want)
		}
		if got == one {
			kept++
		}
		left := onesHalf()
		left[i/8] -= one[i/8]
		if got, want := poly.Clamp(left), plainClamp(left); got != want {
			t.Errorf("of all bits but %d: %x, want %x", i, got, want)
		}
	}
	if kept != 128-4*4-3*2 {
		t.Errorf("%d bits are left as they are", kept)
	}
}

// P5.1: each byte with each number in it.
func TestClampOfEachByte(t *testing.T) {
	for i := range 16 {
		for x := range 256 {
			b := [16]byte(sample.Text(16))
			b[i] = byte(x)
			if got, want := poly.Clamp(b), plainClamp(b); got != want {
				t.Errorf("of %x: %x, want %x", b, got, want)
			}
		}
	}
}

// P5.1: the bits that are 0 are so already, when it is done again.
func TestClampTwice(t *testing.T) {
	for _, b := range halves() {
		if once := poly.Clamp(b); poly.Clamp(once) != once {
			t.Errorf("of %x: %x, then %x", b, once, poly.Clamp(once))
		}
	}
}

// Rule 4: the bytes that were handed in are as they were.
func TestClampTouchesNothing(t *testing.T) {
	b := onesHalf()
	poly.Clamp(b)
	if b != onesHalf() {
		t.Errorf("handed in ones, now %x", b)
	}
}
