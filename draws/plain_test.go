package draws_test

import (
	"bytes"
	"testing"

	"coffret/draws"
	"coffret/sample"
	"coffret/sha"
)

// plainBytes is the chapter's P7.1, taken word by word: the first n bytes of a source of these texts.
func plainBytes(l [][]byte, n int) []byte {
	var texts []byte
	for _, x := range l {
		texts = append(texts, x...)
	}
	seed := sha.Sum(texts)
	out := bytes.Clone(texts)
	for i := 0; len(out) < n; i++ {
		var count [8]byte
		for at, left := 7, i; left > 0; at, left = at-1, left/256 {
			count[at] = byte(left % 256)
		}
		sum := sha.Of(seed[:], count[:])
		out = append(out, sum[:]...)
	}
	return out[:n]
}

// nothings are lists of texts that have no bytes in all.
func nothings() [][][]byte {
	return [][][]byte{nil, {}, {nil}, {{}}, {nil, {}, nil}}
}

// lists are lists of texts, about the sizes of a sum and of a block.
func lists() [][][]byte {
	l := append(nothings(),
		[][]byte{[]byte("a")},
		[][]byte{[]byte("ab")},
		[][]byte{[]byte("a"), []byte("b")},
		[][]byte{nil, []byte("a"), {}, []byte("bc"), nil},
		[][]byte{sample.Text(40), sample.Ones(1), sample.Text(60)},
		[][]byte{make([]byte, 32), make([]byte, 1)},
	)
	for _, n := range []int{1, 31, 32, 33, 63, 64, 65, 200} {
		l = append(l, [][]byte{sample.Text(n)}, [][]byte{sample.Ones(n)}, [][]byte{make([]byte, n)})
	}
	return l
}

// sizeOf is how many bytes texts have together.
func sizeOf(l [][]byte) int {
	n := 0
	for _, x := range l {
		n += len(x)
	}
	return n
}

// checkTake tells whether Take(n) tells the bytes that are wanted, and whether these were told then.
func checkTake(t *testing.T, what string, s *draws.Source, n int, want []byte) {
	t.Helper()
	used := s.Used()
	if got := s.Take(n); !bytes.Equal(got, want) {
		t.Errorf("%s: Take(%d) tells %d bytes, %x, want %d, %x", what, n, len(got), sample.Some(got), len(want), sample.Some(want))
	}
	checkUsed(t, what, s, used+len(want))
}

// checkKey tells whether Key tells the bytes that are wanted, and whether these were told then.
func checkKey(t *testing.T, what string, s *draws.Source, want []byte) {
	t.Helper()
	used := s.Used()
	if got := s.Key(); !bytes.Equal(got[:], want) {
		t.Errorf("%s: the key is %x, want %x", what, got, want)
	}
	checkUsed(t, what, s, used+32)
}

// checkUsed tells whether so many bytes were told, asked twice.
func checkUsed(t *testing.T, what string, s *draws.Source, want int) {
	t.Helper()
	for range 2 {
		if got := s.Used(); got != want {
			t.Errorf("%s: %d were told, it says %d", what, want, got)
		}
	}
}
