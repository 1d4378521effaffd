package wire_test

import (
	"bytes"
	"math"
	"testing"

	"coffret/api"
	"coffret/wire"
)

// spared is a text with known bytes in its spare room, so that a test can tell whether somebody wrote there.
func spared(text string) []byte {
	return append([]byte(text), bytes.Repeat([]byte{0xEE}, 64)...)[:len(text)]
}

// checkSpared tells whether a text that spared made, and its spare room, are as they were.
func checkSpared(t *testing.T, b []byte, text string) {
	t.Helper()
	if string(b) != text {
		t.Errorf("handed in %q, now %q", text, b)
	}
	for i, x := range b[len(b) : len(b)+64] {
		if x != 0xEE {
			t.Fatalf("spare room of %q was written at %d", text, i)
		}
	}
}

// P1.1: Put.
func TestPutLaysTheLowestBytes(t *testing.T) {
	const v = 0x0102030405060708
	for _, c := range []struct {
		b    string
		v    uint64
		n    int
		want string
	}{
		{"", v, 1, "\x08"},
		{"", v, 2, "\x07\x08"},
		{"", v, 3, "\x06\x07\x08"},
		{"", v, 4, "\x05\x06\x07\x08"},
		{"", v, 5, "\x04\x05\x06\x07\x08"},
		{"", v, 6, "\x03\x04\x05\x06\x07\x08"},
		{"", v, 7, "\x02\x03\x04\x05\x06\x07\x08"},
		{"", v, 8, "\x01\x02\x03\x04\x05\x06\x07\x08"},
		{"", v, 9, "\x01\x02\x03\x04\x05\x06\x07\x08"},
		{"", v, 10, "\x01\x02\x03\x04\x05\x06\x07\x08"},
		{"", v, math.MaxInt, "\x01\x02\x03\x04\x05\x06\x07\x08"},
		{"", v, 0, ""},
		{"", v, -1, ""},
		{"", v, math.MinInt, ""},
		{"ab", v, 0, "ab"},
		{"ab", v, -7, "ab"},
		{"ab", v, 2, "ab\x07\x08"},
		{"ab", 5, 4, "ab\x00\x00\x00\x05"},
		{"ab", 0, 1, "ab\x00"},
		{"", math.MaxUint64, 8, "\xff\xff\xff\xff\xff\xff\xff\xff"},
		{"", math.MaxUint64, 1, "\xff"},
		{"", 256, 1, "\x00"},
	} {
		if got := wire.Put([]byte(c.b), c.v, c.n); string(got) != c.want {
			t.Errorf("Put(%q, %x, %d) = %x, want %x", c.b, c.v, c.n, got, c.want)
		}
	}
	if got := wire.Put(nil, 7, 1); string(got) != "\x07" {
		t.Errorf("Put(nil, 7, 1) = %x", got)
	}
}

// P1.1: Sized.
func TestSizedLaysTheLengthAndTheText(t *testing.T) {
	for _, c := range []struct{ b, x, want string }{
		{"", "ab", "\x00\x00\x00\x02ab"},
		{"", "", "\x00\x00\x00\x00"},
		{"xyz", "", "xyz\x00\x00\x00\x00"},
		{"xyz", "\x00\xff", "xyz\x00\x00\x00\x02\x00\xff"},
	} {
		if got := wire.Sized([]byte(c.b), []byte(c.x)); string(got) != c.want {
			t.Errorf("Sized(%q, %q) = %x, want %x", c.b, c.x, got, c.want)
		}
	}
	if got := wire.Sized(nil, nil); string(got) != "\x00\x00\x00\x00" {
		t.Errorf("Sized(nil, nil) = %x", got)
	}
}

// P1.1: Sized has no greatest text of its own; only readers refuse one.
func TestSizedLaysTextsOfAnyLength(t *testing.T) {
	for n, head := range map[int]string{
		255:                "\x00\x00\x00\xff",
		256:                "\x00\x00\x01\x00",
		api.MaxSized:       "\x00\x01\x00\x00",
		api.MaxSized + 1:   "\x00\x01\x00\x01",
		1<<24 + 0x00020304: "\x01\x02\x03\x04",
	} {
		x := bytes.Repeat([]byte{'x'}, n)
		got := wire.Sized([]byte("b"), x)
		if string(got[:5]) != "b"+head || !bytes.Equal(got[5:], x) {
			t.Errorf("Sized of %d bytes begins with %x and has %d bytes", n, got[:5], len(got))
		}
	}
}

// P1.1: List.
func TestListLaysTheCountAndTheTexts(t *testing.T) {
	for _, c := range []struct {
		b    string
		l    [][]byte
		want string
	}{
		{"", nil, "\x00\x00"},
		{"", [][]byte{}, "\x00\x00"},
		{"b", nil, "b\x00\x00"},
		{"b", [][]byte{nil}, "b\x00\x01\x00\x00\x00\x00"},
		{"", [][]byte{[]byte("ab"), {}, []byte("c")}, "\x00\x03\x00\x00\x00\x02ab\x00\x00\x00\x00\x00\x00\x00\x01c"},
	} {
		if got := wire.List([]byte(c.b), c.l); string(got) != c.want {
			t.Errorf("List(%q, %q) = %x, want %x", c.b, c.l, got, c.want)
		}
	}
}

// P1.1: List of very many texts.
func TestListLaysAtMost65535Texts(t *testing.T) {
	many := make([][]byte, 65540)
	for i := range many {
		many[i] = []byte{byte(i >> 8), byte(i)}
	}
	for _, n := range []int{65534, 65535, 65536, len(many)} {
		laid := min(n, 65535)
		want := []byte{byte(laid >> 8), byte(laid)}
		for _, x := range many[:laid] {
			want = append(want, 0, 0, 0, 2, x[0], x[1])
		}
		if got := wire.List(nil, many[:n]); !bytes.Equal(got, want) {
			t.Errorf("List of %d texts has %d bytes and begins with %x", n, len(got), got[:8])
		}
	}
}

// P1.1: what is laid stands in new memory, even where nothing is laid.
func TestLayingTakesNewMemory(t *testing.T) {
	for name, lay := range map[string]func(b []byte) []byte{
		"Put none":  func(b []byte) []byte { return wire.Put(b, 9, 0) },
		"Put one":   func(b []byte) []byte { return wire.Put(b, 9, 1) },
		"Put eight": func(b []byte) []byte { return wire.Put(b, 9, 8) },
		"Sized":     func(b []byte) []byte { return wire.Sized(b, []byte("x")) },
		"Sized nil": func(b []byte) []byte { return wire.Sized(b, nil) },
		"List":      func(b []byte) []byte { return wire.List(b, [][]byte{[]byte("x")}) },
		"List nil":  func(b []byte) []byte { return wire.List(b, nil) },
	} {
		for _, text := range []string{"", "abc"} {
			b := spared(text)
			got := lay(b)
			checkSpared(t, b, text)
			for i := range got[:cap(got)] {
				got[:cap(got)][i] = '!'
			}
			checkSpared(t, b, text)
			if t.Failed() {
				t.Fatalf("%s of %q", name, text)
			}
		}
	}
}

// P1.1: what is laid shares nothing with the texts, which stay as they were.
func TestLayingLeavesTheTextsAlone(t *testing.T) {
	x, y := spared("one"), spared("two")
	l := append([][]byte{x, y}, []byte("behind"))[:2]
	for _, got := range [][]byte{wire.Sized(nil, x), wire.List(nil, l), wire.Sized(x, x), wire.List(x, l)} {
		for i := range got[:cap(got)] {
			got[:cap(got)][i] = '!'
		}
		checkSpared(t, x, "one")
		checkSpared(t, y, "two")
	}
	if string(l[:3][2]) != "behind" {
		t.Errorf("the list's spare room is %q", l[:3][2])
	}
	if got := wire.List(nil, l); len(got) != 2+7+7 {
		t.Errorf("what lies behind the list's length was laid: %x", got)
	}
}

// P1.1: the bytes and the text may lie in one memory.
func TestLayingTextsOfTheSameMemory(t *testing.T) {
	b := []byte("abcdef")
	if got := wire.Sized(b[:2], b[1:4]); string(got) != "ab\x00\x00\x00\x03bcd" {
		t.Errorf("Sized = %q", got)
	}
	if got := wire.List(b[:1], [][]byte{b[:3], b[2:]}); string(got) != "a\x00\x02\x00\x00\x00\x03abc\x00\x00\x00\x04cdef" {
		t.Errorf("List = %q", got)
	}
	if string(b) != "abcdef" {
		t.Errorf("the bytes are now %q", b)
	}
}
