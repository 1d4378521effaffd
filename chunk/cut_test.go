package chunk_test

import (
	"bytes"
	"errors"
	"fmt"
	"math"
	"slices"
	"testing"

	"coffret/api"
	"coffret/chunk"
	"coffret/sample"
)

// pair is an item of more than one field, and named a list that has a name of its own.
type (
	pair struct {
		at   int
		text string
	}
	named []string
)

// counted are n items, each made of its number.
func counted[T any](n int, make func(i int) T) []T {
	var l []T
	for i := range n {
		l = append(l, make(i))
	}
	return l
}

func ints(n int) []int {
	return counted(n, func(i int) int { return i + 1 })
}

// sizes are those that a list of n items is cut by.
func sizes(n int) []int {
	return []int{math.MinInt, math.MinInt + 1, math.MinInt32, -n, -2, -1, 0, 1, 2, 3, 4, 5, 7, 8, n / 2, n - 1, n, n + 1, 2 * n, 2048, math.MaxInt32, math.MaxInt - n, math.MaxInt - 1, math.MaxInt}
}

// checkCut tells whether a list is cut as the chapter says, taken word by word, and joined again.
func checkCut[T comparable](t *testing.T, what string, l []T) {
	t.Helper()
	for _, size := range sizes(len(l)) {
		what := fmt.Sprintf("%s, %d items by %d", what, len(l), size)
		parts := chunk.Cut(l, size)
		checkParts(t, what, parts, plainCut(l, size))
		checkJoin(t, what, parts, l)
	}
}

// checkJoin tells whether parts are joined to a list.
func checkJoin[T comparable](t *testing.T, what string, parts [][]T, want []T) {
	t.Helper()
	if got := chunk.Join(parts); !slices.Equal(got, want) {
		t.Errorf("%s: %d items %v, want %d items %v", what, len(got), got, len(want), want)
	}
}

// P12.2: Cut of a few, part by part.
func TestCutOfAFew(t *testing.T) {
	for _, c := range []struct {
		n, size int
		want    [][]int
	}{
		{5, 2, [][]int{{1, 2}, {3, 4}, {5}}},
		{4, 2, [][]int{{1, 2}, {3, 4}}},
		{6, 3, [][]int{{1, 2, 3}, {4, 5, 6}}},
		{7, 3, [][]int{{1, 2, 3}, {4, 5, 6}, {7}}},
		{3, 5, [][]int{{1, 2, 3}}},
		{5, 5, [][]int{{1, 2, 3, 4, 5}}},
		{6, 5, [][]int{{1, 2, 3, 4, 5}, {6}}},
		{1, 1, [][]int{{1}}},
		{3, 1, [][]int{{1}, {2}, {3}}},
		{3, 0, [][]int{{1}, {2}, {3}}},
		{3, -1, [][]int{{1}, {2}, {3}}},
		{2, -5, [][]int{{1}, {2}}},
		{3, math.MinInt, [][]int{{1}, {2}, {3}}},
		{3, math.MaxInt, [][]int{{1, 2, 3}}},
		{1, math.MaxInt, [][]int{{1}}},
	} {
		checkParts(t, fmt.Sprintf("%d by %d", c.n, c.size), chunk.Cut(ints(c.n), c.size), c.want)
	}
}

// P12.2: of an empty list there are no parts, by any size.
func TestCutOfNone(t *testing.T) {
	for _, size := range sizes(3) {
		for _, l := range [][]int{nil, {}, ints(5)[:0], ints(5)[5:]} {
			if parts := chunk.Cut(l, size); len(parts) != 0 {
				t.Errorf("by %d: %v", size, parts)
			}
		}
		if len(chunk.Cut[string](nil, size)) != 0 || len(chunk.Cut([]struct{}{}, size)) != 0 || len(chunk.Cut(named(nil), size)) != 0 {
			t.Errorf("by %d: parts of an empty list", size)
		}
	}
}

// P12.2, P12.3: lists of each length up to many, by sizes about it.
func TestCutOfEachLength(t *testing.T) {
	for n := range 70 {
		checkCut(t, "ints", ints(n))
		for size := 1; size <= n+2; size++ {
			checkParts(t, fmt.Sprintf("%d by %d", n, size), chunk.Cut(ints(n), size), plainCut(ints(n), size))
		}
	}
	for _, n := range []int{255, 256, 257, 2047, 2048, 2049, 4096, 5000} {
		checkCut(t, "ints", ints(n))
	}
}

// P12.2, P12.3: items of several types.
func TestCutOfEachType(t *testing.T) {
	for _, n := range []int{0, 1, 2, 5, 8, 9, 30} {
		checkCut(t, "bytes", sample.Text(n))
		checkCut(t, "texts", counted(n, func(i int) string { return fmt.Sprint("t", i) }))
		checkCut(t, "bools", counted(n, func(i int) bool { return i%3 == 0 }))
		checkCut(t, "wide numbers", counted(n, func(i int) complex128 { return complex(float64(i), 1) }))
		checkCut(t, "arrays", counted(n, func(i int) [3]int16 { return [3]int16{int16(i), 2, int16(-i)} }))
		checkCut(t, "names", counted(n, func(i int) api.Id { return api.Id{byte(i), 31: 9} }))
		checkCut(t, "structs", counted(n, func(i int) pair { return pair{i, fmt.Sprint(i)} }))
		checkCut(t, "pointers", counted(n, func(i int) *int { return &i }))
		checkCut(t, "channels", counted(n, func(i int) chan int { return make(chan int, i) }))
		checkCut(t, "errors", counted(n, func(i int) error { return errors.New(fmt.Sprint(i)) }))
		checkCut(t, "anything", counted(n, func(i int) any { return []any{nil, i, "x", 2.5}[i%4] }))
		checkCut(t, "nothing", make([]struct{}, n))
		checkCut(t, "empty arrays", make([][0]int, n))
		checkCut(t, "a named list", named(counted(n, func(i int) string { return fmt.Sprint(i) })))
	}
}

// P12.2, P12.3: items that can't be compared: lists, functions, maps.
func TestCutOfItemsThatAreNotCompared(t *testing.T) {
	lists := chunk.Cut([][]byte{[]byte("a"), nil, {}, []byte("bcd"), []byte("e")}, 2)
	if fmt.Sprintf("%q", lists) != `[["a" ""] ["" "bcd"] ["e"]]` || fmt.Sprintf("%q", chunk.Join(lists)) != `["a" "" "" "bcd" "e"]` {
		t.Errorf("%q, %q", lists, chunk.Join(lists))
	}
	checkNoSpare(t, "lists", lists)
	functions := chunk.Cut(counted(5, func(i int) func() int { return func() int { return 10 * i } }), 3)
	checkNoSpare(t, "functions", functions)
	for i, f := range chunk.Join(functions) {
		if f() != 10*i {
			t.Errorf("the function %d tells %d", i, f())
		}
	}
	maps := chunk.Cut(counted(5, func(i int) map[int]int { return map[int]int{0: i} }), 4)
	checkNoSpare(t, "maps", maps)
	if fmt.Sprint(maps) != "[[map[0:0] map[0:1] map[0:2] map[0:3]] [map[0:4]]]" {
		t.Errorf("%v", maps)
	}
	nested := chunk.Cut(chunk.Cut(ints(7), 2), 3)
	if fmt.Sprint(nested) != "[[[1 2] [3 4] [5 6]] [[7]]]" || !slices.Equal(chunk.Join(chunk.Join(nested)), ints(7)) {
		t.Errorf("%v", nested)
	}
}

// P12.2: numbers that are none (NaN) are items as others.
func TestCutOfNoNumbers(t *testing.T) {
	l := []float64{1, math.NaN(), math.Inf(1), math.Copysign(0, -1), 5}
	if got := fmt.Sprint(chunk.Cut(l, 2)); got != "[[1 NaN] [+Inf -0] [5]]" {
		t.Error(got)
	}
	if got := fmt.Sprint(chunk.Join(chunk.Cut(l, 3))); got != "[1 NaN +Inf -0 5]" {
		t.Error(got)
	}
}

// P12.2, P12.3: a text as long as padded ones are, by Size, and by others.
func TestCutOfALongText(t *testing.T) {
	text := sample.Text(most + 256)
	for _, size := range []int{100, 256, 2047, 2048, 2049, most, most + 256, most + 257} {
		parts := chunk.Cut(text, size)
		if want := (len(text) + size - 1) / size; len(parts) != want {
			t.Fatalf("%d parts by %d, want %d", len(parts), size, want)
		}
		for i, part := range parts {
			from := i * size
			if !bytes.Equal(part, text[from:min(from+size, len(text))]) || cap(part) != len(part) {
				t.Fatalf("the part %d by %d is another", i, size)
			}
		}
		if !bytes.Equal(chunk.Join(parts), text) {
			t.Errorf("joined by %d it is another", size)
		}
	}
}

// P12.2: Join of no parts, and of empty ones.
func TestJoinOfNone(t *testing.T) {
	for _, l := range [][][]int{nil, {}, {nil}, {{}}, {nil, {}, nil}, make([][]int, 1000), {ints(3)[:0], ints(3)[3:]}} {
		if got := chunk.Join(l); len(got) != 0 {
			t.Errorf("%v is joined to %v", l, got)
		}
	}
	if len(chunk.Join[string](nil)) != 0 || len(chunk.Join([][]struct{}{{}, nil})) != 0 {
		t.Error("items of no parts")
	}
}

// P12.2: Join of parts of unlike lengths, in their order, none left out, none put in order, those that are the same told again.
func TestJoinOfUnlikeParts(t *testing.T) {
	same := []int{4, 5}
	for _, c := range []struct {
		l    [][]int
		want []int
	}{
		{[][]int{{1}}, []int{1}},
		{[][]int{{3, 1, 2}}, []int{3, 1, 2}},
		{[][]int{{1}, {2, 3}, {4, 5, 6}}, []int{1, 2, 3, 4, 5, 6}},
		{[][]int{{4, 5, 6}, {2, 3}, {1}}, []int{4, 5, 6, 2, 3, 1}},
		{[][]int{{}, {1, 2}, nil, {3}, {}, {}, {4}, nil}, []int{1, 2, 3, 4}},
		{[][]int{nil, nil, {9}}, []int{9}},
		{[][]int{{9}, nil, nil}, []int{9}},
		{[][]int{{0}, {0, 0}}, []int{0, 0, 0}},
		{[][]int{same, same, same[:1], same[1:]}, []int{4, 5, 4, 5, 4, 5}},
		{[][]int{{1, 2}, {1, 2}, {1}}, []int{1, 2, 1, 2, 1}},
	} {
		checkJoin(t, fmt.Sprint(c.l), c.l, c.want)
	}
	if got := fmt.Sprintf("%q", chunk.Join([][]string{{"a", ""}, {}, {"", "b"}})); got != `["a" "" "" "b"]` {
		t.Error(got)
	}
	if n := len(chunk.Join([][]struct{}{make([]struct{}, 3), nil, make([]struct{}, 4)})); n != 7 {
		t.Errorf("%d items of no bytes", n)
	}
}

// P12.2, P12.3: lists and parts that look like chance, held against the chapter taken word by word.
func TestCutAndJoinAsThePlainOnes(t *testing.T) {
	r := chances(2)
	for range 3000 {
		l := counted(r.IntN(40), func(i int) int { return r.IntN(5) })
		size := r.IntN(50) - 5
		what := fmt.Sprintf("%v by %d", l, size)
		parts := chunk.Cut(l, size)
		checkParts(t, what, parts, plainCut(l, size))
		checkJoin(t, what, parts, l)

		var unlike [][]int
		for range r.IntN(8) {
			unlike = append(unlike, counted(r.IntN(6), func(i int) int { return r.IntN(5) }))
		}
		checkJoin(t, fmt.Sprint(unlike), unlike, plainJoin(unlike))
		checkJoin(t, what+", cut once more", chunk.Join(chunk.Cut(parts, 3)), l)
	}
}
