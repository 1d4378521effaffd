package chunk_test

import (
	"bytes"
	"fmt"
	"slices"
	"testing"

	"coffret/api"
	"coffret/chunk"
	"coffret/sample"
)

const (
	spare     = -77
	overwrote = -99
)

// withSpare is a copy of a list with known items in its spare room.
func withSpare(l []int) []int {
	return append(slices.Clone(l), spare, spare, spare, spare)[:len(l)]
}

// checkSpared tells whether what withSpare made of a list is as it was, its spare room too.
func checkSpared(t *testing.T, what string, own, l []int) {
	t.Helper()
	if !slices.Equal(own, l) || !slices.Equal(own[len(l):len(l)+4], []int{spare, spare, spare, spare}) {
		t.Errorf("%s: of %v it is now %v", what, l, own[:len(l)+4])
	}
}

// Rules 4 and 8: a text that is handed in is as it was, its spare room too, and not read beyond its length.
func TestTextsAreNotTouched(t *testing.T) {
	for _, n := range []int{0, 1, 2, 251, 252, 253, 256, 508, 2044, sizedMost + 1, most, most + 1} {
		text := sample.Text(n)
		own := sample.Spared(text)
		b, e := chunk.Pad(own)
		if want := chunk.Padded(n); len(b) != want || (e == api.OK) != (want > 0) {
			t.Errorf("Pad of %d bytes: %d bytes, error %d", n, len(b), int(e))
		}
		if !sample.Untouched(own, text) {
			t.Errorf("the text of %d bytes was touched", n)
		}
		for _, b := range [][]byte{b, b[:len(b)/2], append(bytes.Clone(b), 1), append(bytes.Clone(b), make([]byte, 256)...)} {
			own := sample.Spared(b)
			got, e := chunk.Unpad(own)
			want, wantError := chunk.Unpad(slices.Clip(bytes.Clone(b)))
			if e != wantError || !bytes.Equal(got, want) {
				t.Errorf("Unpad of %s: %s, error %d, want %s, error %d", shown(b), shown(got), int(e), shown(want), int(wantError))
			}
			if !sample.Untouched(own, b) {
				t.Errorf("what Pad of %d bytes gave was touched", n)
			}
		}
	}
}

// Rule 4: what Pad and Unpad hand out is new memory, its spare room too, and stays when what was handed in is written over.
func TestTextsAreNewMemory(t *testing.T) {
	for _, n := range []int{0, 1, 2, 251, 252, 253, 256, 508, 2044, sizedMost + 1} {
		text := sample.Text(n)
		own := sample.Spared(text)
		first, second := padded(t, own), padded(t, own)
		sample.Overwrite(first, 0xDD)
		if !sample.Untouched(own, text) || !bytes.Equal(second, plainPad(text)) {
			t.Errorf("Pad of %d bytes shares memory", n)
		}
		sample.Overwrite(own, 0xDD)
		if !bytes.Equal(second, plainPad(text)) || !bytes.Equal(padded(t, text), second) {
			t.Errorf("Pad keeps a text of %d bytes", n)
		}

		own = sample.Spared(plainPad(text))
		one, _ := chunk.Unpad(own)
		other, _ := chunk.Unpad(own)
		sample.Overwrite(one, 0xDD)
		if !sample.Untouched(own, plainPad(text)) || !bytes.Equal(other, text) {
			t.Errorf("Unpad to %d bytes shares memory", n)
		}
		sample.Overwrite(own, 0xDD)
		if !bytes.Equal(other, text) {
			t.Errorf("Unpad keeps bytes of a text of %d bytes", n)
		}
	}
}

// Rule 8: nothing that stands behind the text, or behind what was handed in, lies in an answer's spare room.
func TestNothingIsHandedOutBehind(t *testing.T) {
	for _, n := range []int{0, 1, 2, 100, 252, 253, 300} {
		own := sample.Spared(sample.Ones(n))
		b := padded(t, own)
		text, _ := chunk.Unpad(sample.Spared(b))
		for what, l := range map[string][]byte{"Pad": b, "Unpad": text} {
			if behind := l[len(l):cap(l)]; bytes.Count(behind, []byte{0}) != len(behind) {
				t.Errorf("behind what %s of %d bytes gives lies %x", what, n, behind)
			}
		}
	}
	l := withSpare(ints(5))
	joined := chunk.Join([][]int{l, withSpare(ints(2))})
	if behind := joined[len(joined):cap(joined)]; slices.ContainsFunc(behind, func(x int) bool { return x != 0 }) {
		t.Errorf("behind the items lie %v", behind)
	}
	for _, size := range []int{1, 2, 5, 6} {
		parts := chunk.Cut(l, size)
		if behind := parts[len(parts):cap(parts)]; slices.ContainsFunc(behind, func(part []int) bool { return part != nil }) {
			t.Errorf("behind the parts lie %v", behind)
		}
	}
}

// Rules 4 and 8: a list that is cut is as it was, its spare room too, and not read beyond its length.
func TestCutLeavesTheListAlone(t *testing.T) {
	for _, n := range []int{0, 1, 2, 5, 6, 31, 32, 33} {
		for _, size := range sizes(n) {
			what := fmt.Sprintf("%d by %d", n, size)
			own := withSpare(ints(n))
			parts := chunk.Cut(own, size)
			checkSpared(t, what, own, ints(n))
			checkParts(t, what, parts, plainCut(ints(n), size))

			sample.Overwrite(own, overwrote)
			checkParts(t, what+", the list written over", parts, plainCut(ints(n), size))
		}
	}
}

// P12.2, rule 4: each part is a list of its own: what is written over, or appended to it, is not seen in another part, nor in the list, nor in another answer.
func TestPartsShareNothing(t *testing.T) {
	for _, n := range []int{1, 2, 5, 6, 31, 32, 33} {
		for _, size := range sizes(n) {
			own := withSpare(ints(n))
			other := chunk.Cut(own, size)
			for at := range other {
				what := fmt.Sprintf("%d by %d, the part %d", n, size, at)
				parts := chunk.Cut(own, size)
				want := plainCut(ints(n), size)

				longer := append(parts[at], overwrote, overwrote, overwrote)
				checkParts(t, what+", appended to", parts, want)
				sample.Overwrite(longer, overwrote)
				checkParts(t, what+", appended to, and that written over", parts, want)

				sample.Overwrite(parts[at], overwrote)
				sample.Overwrite(want[at][:len(want[at]):len(want[at])], overwrote)
				checkParts(t, what+", written over", parts, want)
				checkSpared(t, what, own, ints(n))
			}
			checkParts(t, fmt.Sprintf("%d by %d, another answer", n, size), other, plainCut(ints(n), size))
		}
	}
}

// Rule 4: the list of the parts is new memory too.
func TestCutTellsNewLists(t *testing.T) {
	l := ints(9)
	first, second := chunk.Cut(l, 2), chunk.Cut(l, 2)
	sample.Overwrite(first, []int{overwrote})
	checkParts(t, "another answer", second, plainCut(ints(9), 2))
	checkParts(t, "asked again", chunk.Cut(l, 2), plainCut(ints(9), 2))
}

// Rules 4 and 8: parts that are joined are as they were, their spare room and the list's too, and not read beyond their lengths.
func TestJoinLeavesThePartsAlone(t *testing.T) {
	for _, counts := range [][]int{{}, {0}, {1}, {5}, {0, 3}, {3, 0}, {2, 2, 1}, {1, 2, 3, 4}, {4, 0, 0, 1}} {
		var parts, own [][]int
		for i, n := range counts {
			parts = append(parts, counted(n, func(j int) int { return 100*i + j }))
			own = append(own, withSpare(parts[i]))
		}
		all := append(slices.Clone(own), []int{spare})
		what := fmt.Sprint(counts)
		got := chunk.Join(all[:len(own)])
		if !slices.Equal(got, plainJoin(parts)) {
			t.Errorf("%s: %v", what, got)
		}
		if !slices.EqualFunc(all, append(slices.Clone(parts), []int{spare}), slices.Equal[[]int]) {
			t.Errorf("%s: the list is now %v", what, all)
		}
		sample.Overwrite(got, overwrote)
		for i, part := range own {
			checkSpared(t, what, part, parts[i])
		}
	}
}

// Rule 4: what is joined stays when the parts are written over, that of one part alone too; and is not seen in another answer.
func TestJoinTellsNewLists(t *testing.T) {
	for _, want := range [][]int{ints(1), ints(4), ints(33)} {
		for _, size := range []int{1, 2, 3, 4, 33, 40} {
			parts := plainCut(want, size)
			first, second := chunk.Join(parts), chunk.Join(parts)
			_ = append(first, overwrote)
			sample.Overwrite(first, overwrote)
			if !slices.Equal(second, want) || !slices.Equal(chunk.Join(parts), want) {
				t.Errorf("%d by %d: two answers share memory", len(want), size)
			}
			for _, part := range parts {
				sample.Overwrite(part, overwrote)
			}
			if !slices.Equal(second, want) {
				t.Errorf("%d by %d: the parts are kept", len(want), size)
			}
		}
	}
}

// Rule 5: asked again, the same is told.
func TestAskedAgain(t *testing.T) {
	for range 20 {
		checkUnpad(t, padded(t, []byte("ab")), []byte("ab"))
		checkNotPadded(t, "again", []byte("ab"))
		if _, e := chunk.Pad(make([]byte, most+1)); e != api.ErrBig {
			t.Errorf("error %d", int(e))
		}
		if chunk.Padded(253) != 512 || chunk.Count(2045) != 2 {
			t.Errorf("%d, %d", chunk.Padded(253), chunk.Count(2045))
		}
		checkCut(t, "again", ints(7))
	}
}
