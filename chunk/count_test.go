package chunk_test

import (
	"math"
	"testing"

	"coffret/chunk"
	"coffret/sample"
)

// The document's example 6.
func TestPaddedExample(t *testing.T) {
	if n := chunk.Padded(253); n != 512 {
		t.Errorf("Padded(253) = %d", n)
	}
}

// P12.1: Padded at the edges, as numbers.
func TestPaddedEdges(t *testing.T) {
	for n, want := range map[int]int{
		math.MinInt: 0, math.MinInt + 4: 0, math.MinInt32: 0, -1 << 32: 0, -257: 0, -256: 0, -253: 0, -252: 0, -5: 0, -4: 0, -3: 0, -1: 0,
		0: 256, 1: 256, 4: 256, 251: 256, 252: 256, 253: 512, 256: 512, 508: 512, 509: 768,
		2044: 2048, 2045: 2304, 65532: 65536, 65533: 65792, 65536: 65792,
		most - 4: most, most - 3: most + 256, most - 1: most + 256, most: most + 256,
		most + 1: 0, most + 252: 0, most + 253: 0, 2 * most: 0, math.MaxInt32: 0, 1 << 32: 0, 1<<32 + 2: 0, math.MaxInt - 4: 0, math.MaxInt - 3: 0, math.MaxInt: 0,
	} {
		if got := chunk.Padded(n); got != want {
			t.Errorf("Padded(%d) = %d, want %d", n, got, want)
		}
	}
}

// P12.1: Padded of many numbers, held against the chapter taken word by word.
func TestPaddedAsThePlainOne(t *testing.T) {
	for _, n := range numbers() {
		if got, want := chunk.Padded(n), plainPadded(n); got != want {
			t.Errorf("Padded(%d) = %d, want %d", n, got, want)
		}
	}
}

// P12.1: about each multiple of Unit that there is.
func TestPaddedAboutEachUnit(t *testing.T) {
	for units := 1; units <= most/256; units++ {
		fits := 256*units - 4
		if a, b, c := chunk.Padded(fits-1), chunk.Padded(fits), chunk.Padded(fits+1); a != 256*units || b != a || c != a+256 {
			t.Errorf("about %d units: %d, %d, %d", units, a, b, c)
		}
	}
}

// P12.1, P12.3: Padded is how long Pad's answer is, whatever the text says; so all texts with one Padded have, padded, one length.
func TestPaddedIsHowLongPadIs(t *testing.T) {
	for _, n := range lengths() {
		for _, text := range texts(n) {
			if got, want := len(padded(t, text)), chunk.Padded(n); got != want {
				t.Errorf("Pad of %d bytes has %d, and Padded is %d", n, got, want)
			}
		}
	}
	one := map[int]int{}
	for n := range 2600 {
		for _, text := range texts(n) {
			b := padded(t, text)
			if len(b) != chunk.Padded(n) {
				t.Errorf("Pad of %d bytes has %d, and Padded is %d", n, len(b), chunk.Padded(n))
			}
			if was, met := one[chunk.Padded(n)]; met && was != len(b) {
				t.Errorf("of texts whose Padded is %d one has %d bytes, another %d", chunk.Padded(n), was, len(b))
			}
			one[chunk.Padded(n)] = len(b)
		}
	}
	if len(one) != 11 {
		t.Errorf("%d lengths", len(one))
	}
}

// P12.1: where Pad tells an error, Padded is 0.
func TestPaddedOfTooMuch(t *testing.T) {
	for _, n := range []int{most, most + 1, most + 2, most + 256} {
		b, _ := chunk.Pad(make([]byte, n))
		if chunk.Padded(n) != len(b) {
			t.Errorf("Pad of %d bytes has %d, and Padded is %d", n, len(b), chunk.Padded(n))
		}
	}
}

// P12.2: Count at the edges, as numbers.
func TestCountEdges(t *testing.T) {
	for n, want := range map[int]int{
		math.MinInt: 0, -1 << 32: 0, -2048: 0, -256: 0, -1: 0,
		0: 1, 1: 1, 252: 1, 253: 1, 1788: 1, 1789: 1, 2043: 1, 2044: 1,
		2045: 2, 2048: 2, 2300: 2, 2301: 2, 4091: 2, 4092: 2, 4093: 3, 6140: 3, 6141: 4,
		98300: 48, 98301: 49,
		most - 4: 2048, most - 3: 2049, most: 2049,
		most + 1: 0, most + 2048: 0, math.MaxInt32: 0, 1 << 32: 0, math.MaxInt - 1: 0, math.MaxInt: 0,
	} {
		if got := chunk.Count(n); got != want {
			t.Errorf("Count(%d) = %d, want %d", n, got, want)
		}
	}
}

// P12.2: Count of many numbers, held against the chapter taken word by word.
func TestCountAsThePlainOne(t *testing.T) {
	for _, n := range numbers() {
		if got, want := chunk.Count(n), plainCount(n); got != want {
			t.Errorf("Count(%d) = %d, want %d", n, got, want)
		}
	}
}

// P12.2: about each multiple of Size that there is.
func TestCountAboutEachPart(t *testing.T) {
	for parts := 1; parts <= most/2048; parts++ {
		fits := 2048*parts - 4
		if a, b, c := chunk.Count(fits-1), chunk.Count(fits), chunk.Count(fits+1); a != parts || b != a || c != a+1 {
			t.Errorf("about %d parts: %d, %d, %d", parts, a, b, c)
		}
	}
}

// P12.2: Count is how many parts of Size there are of what Pad gave, all of Size but the last, which is of whole units.
func TestCountIsHowManyPartsThereAre(t *testing.T) {
	for _, n := range append(lengths(), 2043, 2044, 2045, 4092, 4093) {
		b := padded(t, sample.Text(n))
		parts := chunk.Cut(b, chunk.Size)
		if len(parts) != chunk.Count(n) {
			t.Errorf("%d bytes are cut in %d parts, and Count is %d", n, len(parts), chunk.Count(n))
		}
		for i, part := range parts {
			if last := i == len(parts)-1; len(part) != 2048 && !last || len(part) > 2048 || len(part) < 256 || len(part)%256 != 0 {
				t.Errorf("the part %d of %d has %d bytes", i, len(parts), len(part))
			}
		}
		checkUnpad(t, chunk.Join(parts), sample.Text(n))
	}
	for _, n := range []int{math.MinInt, -1, most + 1, math.MaxInt} {
		if parts := chunk.Cut(make([]byte, chunk.Padded(n)), chunk.Size); len(parts) != chunk.Count(n) {
			t.Errorf("%d: %d parts, and Count is %d", n, len(parts), chunk.Count(n))
		}
	}
}
