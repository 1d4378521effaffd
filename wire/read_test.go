package wire_test

import (
	"bytes"
	"errors"
	"math"
	"testing"

	"coffret/api"
	"coffret/wire"
)

// checkState tells whether a reader has so many bytes left, and that wrong.
func checkState(t *testing.T, what string, r *wire.Reader, left int, wrong api.Errno) {
	t.Helper()
	if r.Left() != left || r.Wrong() != wrong || !errors.Is(r.Wrong(), wrong) {
		t.Errorf("%s: %d left and %d wrong, want %d and %d", what, r.Left(), int(r.Wrong()), left, int(wrong))
	}
}

// checkReadsNothing tells whether all that a reader tells is 0 or none, whatever it is asked for, with that wrong throughout.
func checkReadsNothing(t *testing.T, what string, r *wire.Reader, wrong api.Errno) {
	t.Helper()
	for _, n := range []int{math.MinInt, -1, 0, 1, 2, 4, 8, 9, 65536, math.MaxInt} {
		if v := r.Num(n); v != 0 {
			t.Errorf("%s: Num(%d) = %d", what, n, v)
		}
		if x := r.Raw(n); len(x) != 0 {
			t.Errorf("%s: Raw(%d) = %x", what, n, x)
		}
		if x := r.Sized(); len(x) != 0 {
			t.Errorf("%s: Sized() = %x", what, x)
		}
		if l := r.List(n); len(l) != 0 {
			t.Errorf("%s: List(%d) = %x", what, n, l)
		}
		checkState(t, what, r, 0, wrong)
		if r.Done() != wrong {
			t.Errorf("%s: Done() = %d, want %d", what, int(r.Done()), int(wrong))
		}
	}
}

// checkFailed tells whether a text that was to be read is none, and whether the reader stays at that error.
func checkFailed(t *testing.T, what string, told int, r *wire.Reader, wrong api.Errno) {
	t.Helper()
	if told != 0 {
		t.Errorf("%s: told %d of what it could not read", what, told)
	}
	checkReadsNothing(t, what, r, wrong)
}

// P1.2: New.
func TestNewReadsACopy(t *testing.T) {
	b := []byte("\x00\x00\x00\x02abc")
	r := wire.New(b)
	checkState(t, "New", r, 7, api.OK)
	for i := range b {
		b[i] = 0xFF
	}
	if x := r.Sized(); string(x) != "ab" {
		t.Errorf("Sized() = %q", x)
	}
	checkState(t, "behind Sized", r, 1, api.OK)

	s := spared("ab")
	r = wire.New(s)
	if x := r.Raw(3); len(x) != 0 {
		t.Errorf("read behind the length: %x", x)
	}
	checkState(t, "behind all", r, 0, api.ErrEnd)
	checkSpared(t, s, "ab")

	for _, b := range [][]byte{nil, {}} {
		r := wire.New(b)
		checkState(t, "New of none", r, 0, api.OK)
		if r.Done() != api.OK {
			t.Errorf("Done() = %d", int(r.Done()))
		}
	}
}

// P1.2: Num.
func TestNumReadsTheHighestByteFirst(t *testing.T) {
	b := []byte("\x81\x02\x03\x04\x05\x06\x07\xf8\x09\x0a")
	for _, c := range []struct {
		n    int
		want uint64
		left int
	}{
		{math.MinInt, 0, 10},
		{-1, 0, 10},
		{0, 0, 10},
		{1, 0x81, 9},
		{2, 0x8102, 8},
		{3, 0x810203, 7},
		{4, 0x81020304, 6},
		{5, 0x8102030405, 5},
		{6, 0x810203040506, 4},
		{7, 0x81020304050607, 3},
		{8, 0x81020304050607f8, 2},
		{9, 0x81020304050607f8, 2},
		{11, 0x81020304050607f8, 2},
		{math.MaxInt, 0x81020304050607f8, 2},
	} {
		r := wire.New(b)
		if v := r.Num(c.n); v != c.want {
			t.Errorf("Num(%d) = %x, want %x", c.n, v, c.want)
		}
		checkState(t, "Num", r, c.left, api.OK)
	}
	r := wire.New(b)
	if v, w := r.Num(1), r.Num(2); v != 0x81 || w != 0x0203 {
		t.Errorf("one behind the other: %x, %x", v, w)
	}
}

// P1.2: Num of too few bytes.
func TestNumOfTooFewBytes(t *testing.T) {
	for n := 1; n <= 10; n++ {
		for have := range min(n, 8) {
			r := wire.New(bytes.Repeat([]byte{7}, have))
			v := r.Num(n)
			checkFailed(t, "Num", int(v), r, api.ErrEnd)
		}
	}
	r := wire.New(make([]byte, 7))
	r.Num(math.MaxInt)
	checkReadsNothing(t, "Num of as many as 8", r, api.ErrEnd)

	r = wire.New(nil)
	if v := r.Num(0); v != 0 {
		t.Errorf("Num(0) = %d", v)
	}
	checkState(t, "Num of no bytes", r, 0, api.OK)
}

// P1.2: Raw.
func TestRawReadsBytes(t *testing.T) {
	for _, c := range []struct {
		n    int
		want string
		left int
	}{
		{math.MinInt, "", 5},
		{-1, "", 5},
		{0, "", 5},
		{1, "a", 4},
		{4, "abcd", 1},
		{5, "abcde", 0},
	} {
		r := wire.New([]byte("abcde"))
		if x := r.Raw(c.n); string(x) != c.want {
			t.Errorf("Raw(%d) = %q, want %q", c.n, x, c.want)
		}
		checkState(t, "Raw", r, c.left, api.OK)
	}
	for _, n := range []int{6, 7, 1 << 20, math.MaxInt} {
		r := wire.New([]byte("abcde"))
		x := r.Raw(n)
		checkFailed(t, "Raw", len(x), r, api.ErrEnd)
	}
	r := wire.New([]byte("abcde"))
	r.Raw(5)
	if x := r.Raw(0); len(x) != 0 {
		t.Errorf("Raw(0) = %q", x)
	}
	checkState(t, "Raw of none at the end", r, 0, api.OK)
	x := r.Raw(1)
	checkFailed(t, "Raw at the end", len(x), r, api.ErrEnd)
}

// P1.2, P1.3: what is told is new memory, its spare room too.
func TestWhatIsReadIsNewMemory(t *testing.T) {
	laid := wire.List(wire.Sized([]byte("raw"), []byte("sized")), [][]byte{[]byte("one"), []byte("two")})
	r := wire.New(append(laid, "end"...))
	spoil := func(x []byte) {
		for i := range x[:cap(x)] {
			x[:cap(x)][i] = '!'
		}
	}
	x := r.Raw(3)
	spoil(x)
	if y := r.Sized(); string(y) != "sized" {
		t.Fatalf("Sized() = %q", y)
	} else {
		spoil(y)
	}
	l := r.List(2)
	if len(l) != 2 {
		t.Fatalf("List(2) = %q", l)
	}
	spoil(l[0])
	if string(l[1]) != "two" {
		t.Errorf("the texts of a list share memory: %q", l)
	}
	spoil(l[1])
	if y := r.Raw(3); string(y) != "end" || r.Done() != api.OK {
		t.Errorf("Raw(3) = %q", y)
	}
}

// P1.3: Sized.
func TestSizedReadsAText(t *testing.T) {
	for _, c := range []struct {
		b, want string
		left    int
	}{
		{"\x00\x00\x00\x00", "", 0},
		{"\x00\x00\x00\x00ab", "", 2},
		{"\x00\x00\x00\x02ab", "ab", 0},
		{"\x00\x00\x00\x02abc", "ab", 1},
	} {
		r := wire.New([]byte(c.b))
		if x := r.Sized(); string(x) != c.want {
			t.Errorf("Sized of %x = %q, want %q", c.b, x, c.want)
		}
		checkState(t, "Sized", r, c.left, api.OK)
	}
}

// P1.3: Sized, what is wrong.
func TestSizedTellsWhatIsWrong(t *testing.T) {
	for _, c := range []struct {
		b     string
		wrong api.Errno
	}{
		{"", api.ErrEnd},
		{"\x00", api.ErrEnd},
		{"\xff\xff", api.ErrEnd},
		{"\xff\xff\xff", api.ErrEnd},
		{"\x00\x00\x00\x01", api.ErrEnd},
		{"\x00\x00\x00\x03ab", api.ErrEnd},
		{"\x00\x01\x00\x00ab", api.ErrEnd},
		{"\x00\x01\x00\x01ab", api.ErrBig},
		{"\x80\x00\x00\x00", api.ErrBig},
		{"\xff\xff\xff\xff", api.ErrBig},
	} {
		r := wire.New([]byte(c.b))
		x := r.Sized()
		checkFailed(t, "Sized", len(x), r, c.wrong)
	}
}

// P1.3: Sized at the limit, and one beyond it, with all the bytes there.
func TestSizedAtMaxSized(t *testing.T) {
	x := bytes.Repeat([]byte("y"), api.MaxSized+1)
	r := wire.New(wire.Sized(nil, x[1:]))
	if got := r.Sized(); !bytes.Equal(got, x[1:]) {
		t.Errorf("a text of MaxSized bytes is read as one of %d", len(got))
	}
	checkState(t, "MaxSized", r, 0, api.OK)

	whole := wire.Sized(nil, x[1:])
	r = wire.New(whole[:len(whole)-1])
	got := r.Sized()
	checkFailed(t, "MaxSized, a byte missing", len(got), r, api.ErrEnd)

	r = wire.New(wire.Sized(nil, x))
	got = r.Sized()
	checkFailed(t, "MaxSized + 1", len(got), r, api.ErrBig)
}

// P1.3: List.
func TestListReadsTexts(t *testing.T) {
	texts := [][]byte{[]byte("ab"), nil, []byte("c")}
	for _, most := range []int{3, 4, 65535, 65536, math.MaxInt} {
		r := wire.New(append(wire.List(nil, texts), '!'))
		l := r.List(most)
		if len(l) != 3 || string(l[0]) != "ab" || len(l[1]) != 0 || string(l[2]) != "c" {
			t.Errorf("List(%d) = %q", most, l)
		}
		checkState(t, "List", r, 1, api.OK)
	}
	for _, most := range []int{0, 1, math.MaxInt} {
		r := wire.New([]byte{0, 0, '!'})
		if l := r.List(most); len(l) != 0 {
			t.Errorf("List(%d) = %q", most, l)
		}
		checkState(t, "List of none", r, 1, api.OK)
	}
}

// P1.3: List, more texts than most; a list of none has more than a most below 0.
func TestListOfMoreThanMost(t *testing.T) {
	for _, c := range []struct {
		b    string
		most int
	}{
		{"\x00\x01\x00\x00\x00\x00", 0},
		{"\x00\x02\x00\x00\x00\x00\x00\x00\x00\x00", 1},
		{"\x00\x02\x00\x00\x00\x00\x00\x00\x00\x00", -1},
		{"\x00\x02\x00\x00\x00\x00\x00\x00\x00\x00", math.MinInt},
		{"\x00\x00", -1},
		{"\x00\x00", math.MinInt},
		{"\xff\xff", 65534},
		{"\x00\x02", 1},
	} {
		r := wire.New([]byte(c.b))
		l := r.List(c.most)
		checkFailed(t, "List", len(l), r, api.ErrBig)
	}
}

// P1.3: List, too few bytes at each place.
func TestListOfTooFewBytes(t *testing.T) {
	whole := wire.List(nil, [][]byte{[]byte("ab"), nil, []byte("cde")})
	for n := range len(whole) {
		r := wire.New(whole[:n])
		l := r.List(3)
		checkFailed(t, "List", len(l), r, api.ErrEnd)
	}
	for _, b := range []string{"", "\xff"} {
		r := wire.New([]byte(b))
		l := r.List(-1)
		checkFailed(t, "ErrEnd ahead of ErrBig", len(l), r, api.ErrEnd)
	}
	r := wire.New([]byte{0xff, 0xff})
	l := r.List(65535)
	checkFailed(t, "a count alone", len(l), r, api.ErrEnd)
}

// P1.3: List, the first text that is wrong says what is.
func TestListTellsTheTextsError(t *testing.T) {
	big := make([]byte, api.MaxSized+1)
	full := big[1:]
	for _, c := range []struct {
		l     [][]byte
		wrong api.Errno
	}{
		{[][]byte{full, full}, api.OK},
		{[][]byte{big}, api.ErrBig},
		{[][]byte{[]byte("a"), big}, api.ErrBig},
		{[][]byte{[]byte("a"), big, []byte("b")}, api.ErrBig},
	} {
		r := wire.New(wire.List(nil, c.l))
		l := r.List(len(c.l))
		if c.wrong != api.OK {
			checkFailed(t, "List", len(l), r, c.wrong)
		} else if len(l) != len(c.l) || r.Done() != api.OK {
			t.Errorf("List tells %d texts, and %d wrong", len(l), int(r.Wrong()))
		}
	}
}

// P1.3: List of as many texts as there can be.
func TestListOf65535Texts(t *testing.T) {
	b := wire.List(nil, make([][]byte, 65536))
	r := wire.New(b)
	if l := r.List(65535); len(l) != 65535 || r.Done() != api.OK {
		t.Errorf("List tells %d texts, and %d wrong", len(l), int(r.Wrong()))
	}
	r = wire.New(b)
	l := r.List(65534)
	checkFailed(t, "one more than most", len(l), r, api.ErrBig)
}

// P1.4: what went wrong first stays, and what would have been right is read no more.
func TestNothingIsReadOnceWrong(t *testing.T) {
	rest := append(wire.Sized(nil, []byte("ab")), wire.List(nil, [][]byte{[]byte("c")})...)
	for _, c := range []struct {
		what  string
		b     []byte
		do    func(r *wire.Reader)
		wrong api.Errno
	}{
		{"Raw", rest, func(r *wire.Reader) { r.Raw(len(rest) + 1) }, api.ErrEnd},
		{"Num", []byte{1, 2, 3}, func(r *wire.Reader) { r.Num(4) }, api.ErrEnd},
		{"Sized, ErrBig", append([]byte{0, 1, 0, 1}, rest...), func(r *wire.Reader) { r.Sized() }, api.ErrBig},
		{"Sized, ErrEnd", append([]byte{0, 1, 0, 0}, rest...), func(r *wire.Reader) { r.Sized() }, api.ErrEnd},
		{"List, ErrBig", append([]byte{0, 9}, rest...), func(r *wire.Reader) { r.List(8) }, api.ErrBig},
		{"List, ErrEnd", append([]byte{0, 1, 0, 0, 1, 0}, rest...), func(r *wire.Reader) { r.List(8) }, api.ErrEnd},
		{"first ErrBig", append([]byte{0, 9}, rest...), func(r *wire.Reader) { r.List(8); r.Raw(99) }, api.ErrBig},
		{"first ErrEnd", rest, func(r *wire.Reader) { r.Raw(99); r.List(-1) }, api.ErrEnd},
	} {
		r := wire.New(c.b)
		c.do(r)
		checkReadsNothing(t, c.what, r, c.wrong)
	}
}

// P1.4: Left, Done.
func TestDoneTellsThatBytesAreLeft(t *testing.T) {
	r := wire.New([]byte{1, 2, 3})
	for left := 3; left > 0; left-- {
		for range 2 {
			if r.Done() != api.ErrForm {
				t.Errorf("Done() = %d with %d left", int(r.Done()), left)
			}
			checkState(t, "Done", r, left, api.OK)
		}
		if v := r.Num(1); v != uint64(4-left) {
			t.Errorf("behind Done, Num(1) = %d", v)
		}
	}
	if r.Done() != api.OK {
		t.Errorf("Done() = %d at the end", int(r.Done()))
	}
	checkState(t, "at the end", r, 0, api.OK)
}

// P1.4: a plain Reader{} is one of no bytes.
func TestPlainReader(t *testing.T) {
	var r wire.Reader
	checkState(t, "plain", &r, 0, api.OK)
	if v, x := r.Num(0), r.Raw(0); v != 0 || len(x) != 0 || r.Done() != api.OK {
		t.Errorf("plain: %d, %x, %d", v, x, int(r.Done()))
	}
	for what, do := range map[string]func(r *wire.Reader) int{
		"Num":       func(r *wire.Reader) int { return int(r.Num(1)) },
		"Raw":       func(r *wire.Reader) int { return len(r.Raw(1)) },
		"Sized":     func(r *wire.Reader) int { return len(r.Sized()) },
		"List":      func(r *wire.Reader) int { return len(r.List(1)) },
		"List(-1)":  func(r *wire.Reader) int { return len(r.List(-1)) },
		"Num(9)":    func(r *wire.Reader) int { return int(r.Num(9)) },
		"Raw(many)": func(r *wire.Reader) int { return len(r.Raw(math.MaxInt)) },
	} {
		r := &wire.Reader{}
		told := do(r)
		checkFailed(t, "plain, "+what, told, r, api.ErrEnd)
	}
}

// P1.4: of nil all are 0, or none, and nothing is wrong.
func TestNilReader(t *testing.T) {
	checkReadsNothing(t, "nil", nil, api.OK)
}
