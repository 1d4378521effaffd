package chunk_test

import (
	"bytes"
	"fmt"
	"math"
	"math/rand/v2"
	"slices"
	"testing"

	"coffret/api"
	"coffret/chunk"
	"coffret/sample"
)

// most is how many bytes a text may have that is padded; sizedMost how many wire reads as a sized text, which is far fewer.
const (
	most      = 256 * 16384
	sizedMost = 1 << 16
)

// plainPad is the chapter's P12.1 of Pad, taken word by word, of a text that is not too long.
func plainPad(b []byte) []byte {
	n := len(b)
	out := append([]byte{byte(n >> 24), byte(n >> 16), byte(n >> 8), byte(n)}, b...)
	for len(out)%256 != 0 {
		out = append(out, 0)
	}
	return out
}

// plainUnpad is the chapter's P12.1 of Unpad, taken word by word: of all texts that could be meant the one of which plainPad gives just these bytes.
func plainUnpad(b []byte) ([]byte, bool) {
	for n := 0; 4+n <= len(b); n++ {
		if plainPadded(n) == len(b) && bytes.Equal(plainPad(b[4:4+n]), b) {
			return b[4 : 4+n], true
		}
	}
	return nil, false
}

// plainPadded is P12.1 of Padded: counted up, unit by unit.
func plainPadded(n int) int {
	if n < 0 || n > most {
		return 0
	}
	out := 256
	for out < 4+n {
		out += 256
	}
	return out
}

// plainCount is P12.2 of Count: taken off, part by part.
func plainCount(n int) int {
	out := 0
	for left := plainPadded(n); left > 0; left -= 2048 {
		out++
	}
	return out
}

// plainCut is P12.2 of Cut, taken word by word: item by item, each into the last part, or, where that is full, into a new one.
func plainCut[T any](l []T, size int) [][]T {
	if size < 1 {
		size = 1
	}
	var out [][]T
	for _, x := range l {
		if len(out) == 0 || len(out[len(out)-1]) == size {
			out = append(out, nil)
		}
		out[len(out)-1] = append(out[len(out)-1], x)
	}
	return out
}

// plainJoin is P12.2 of Join, taken word by word.
func plainJoin[T any](l [][]T) []T {
	var out []T
	for _, part := range l {
		for _, x := range part {
			out = append(out, x)
		}
	}
	return out
}

// numbers are those that Padded and Count are asked for: below 0, about multiples of Unit and of Size, about the greatest that may be, and the outermost that there are.
func numbers() []int {
	l := []int{math.MinInt, math.MinInt + 1, math.MinInt32, -most, -1 << 16, -257, -256, -255, -5, -4, -3, -2, -1}
	for n := range 5000 {
		l = append(l, n)
	}
	for _, at := range []int{1 << 13, 1 << 14, sizedMost, 2 * sizedMost, 1 << 20, 1 << 21, most - 256, most, most + 256, most + 2048, 2 * most, 1 << 24, 1 << 30} {
		for n := at - 260; n <= at+260; n++ {
			l = append(l, n)
		}
	}
	return append(l, math.MaxInt32, math.MaxInt-260, math.MaxInt-256, math.MaxInt-5, math.MaxInt-4, math.MaxInt-3, math.MaxInt-1, math.MaxInt)
}

// lengths are how many bytes texts have: few, one below, just, and one above a multiple of Unit with the four bytes ahead, and as many as may be.
func lengths() []int {
	l := []int{0, 1, 2, 3, 4, 5, 100}
	for _, units := range []int{1, 2, 3, 7, 8, 9, 16, 17, 255, 256, 257, 258, 1024, 16384} {
		for n := 256*units - 6; n <= 256*units-2; n++ {
			l = append(l, n)
		}
	}
	return append(l, 255, 256, 257, sizedMost-1, sizedMost, sizedMost+1, most-1, most)
}

// shown is the beginning of bytes, short enough to be shown, and how many there are.
func shown(b []byte) string {
	return fmt.Sprintf("%d bytes %x", len(b), sample.Some(b))
}

// padded is what Pad gives of a text that it must take.
func padded(t *testing.T, text []byte) []byte {
	t.Helper()
	b, e := chunk.Pad(text)
	if e != api.OK {
		t.Fatalf("Pad of %s: error %d", shown(text), int(e))
	}
	return b
}

// checkUnpad tells whether bytes are unpadded to a text.
func checkUnpad(t *testing.T, b, text []byte) {
	t.Helper()
	if got, e := chunk.Unpad(b); e != api.OK || !bytes.Equal(got, text) {
		t.Errorf("Unpad of %s: %s, error %d, want %s", shown(b), shown(got), int(e), shown(text))
	}
}

// checkNotPadded tells whether bytes are refused, with nothing beside the error.
func checkNotPadded(t *testing.T, what string, b []byte) {
	t.Helper()
	if got, e := chunk.Unpad(b); e != api.ErrForm || len(got) != 0 {
		t.Errorf("%s: Unpad of %s: %s, error %d", what, shown(b), shown(got), int(e))
	}
}

// checkAsPlain tells whether Unpad of some bytes is as the chapter says, taken word by word; and whether that is a text.
func checkAsPlain(t *testing.T, what string, b []byte) bool {
	t.Helper()
	text, ok := plainUnpad(b)
	if ok {
		checkUnpad(t, b, text)
	} else {
		checkNotPadded(t, what, b)
	}
	return ok
}

// checkParts tells whether parts are these, each without spare room.
func checkParts[T comparable](t *testing.T, what string, got, want [][]T) {
	t.Helper()
	if !slices.EqualFunc(got, want, slices.Equal[[]T]) {
		t.Errorf("%s: %d parts %v, want %d parts %v", what, len(got), got, len(want), want)
	}
	checkNoSpare(t, what, got)
}

func checkNoSpare[T any](t *testing.T, what string, parts [][]T) {
	t.Helper()
	for i, part := range parts {
		if cap(part) != len(part) {
			t.Errorf("%s: the part %d has %d items and room for %d", what, i, len(part), cap(part))
		}
	}
}

// chances are numbers that look like chance, and are the same in each run.
func chances(seed uint64) *rand.Rand {
	return rand.New(rand.NewPCG(seed, 12))
}

// The numbers that the plain forms above have are those of api and of the document.
func TestPlainLimits(t *testing.T) {
	if api.MaxObjects*api.MaxObject != most || api.MaxSized != sizedMost {
		t.Error("the limits are others")
	}
	if chunk.Unit != 256 || chunk.Size != 2048 {
		t.Error("the constants are others")
	}
	if api.ErrBig != 3 || api.ErrForm != 11 {
		t.Error("the errors are others")
	}
}
