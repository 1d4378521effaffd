package wire_test

import (
	"bytes"
	"testing"

	"coffret/api"
	"coffret/wire"
)

// tails are what may stand behind what was laid.
func tails() []string {
	return []string{"", "\x00", "\xff", "\x00\x00\x00\x01x", "\xff\xff\xff\xff\xff\xff\xff\xff\xff", string(make([]byte, 300))}
}

// P1.5: numbers.
func TestLaidNumbersAreRead(t *testing.T) {
	for _, tail := range tails() {
		for _, v := range []uint64{0, 1, 0x7f, 0x80, 0xff, 0x100, 0xfedcba98, 0x123456789abcdef0, 1 << 63, 1<<64 - 1} {
			for n := -1; n <= 10; n++ {
				bits := 8 * min(max(n, 0), 8)
				want := v
				if bits < 64 {
					want = v & (1<<bits - 1)
				}
				r := wire.New(append(wire.Put(nil, v, n), tail...))
				if got := r.Num(n); got != want || r.Left() != len(tail) || r.Wrong() != api.OK {
					t.Errorf("%x in %d bytes is read as %x, with %d left of %d", v, n, got, r.Left(), len(tail))
				}
			}
		}
	}
}

// P1.5: texts, of each length up to some, and at the limit.
func TestLaidTextsAreRead(t *testing.T) {
	all := make([]byte, api.MaxSized)
	for i := range all {
		all[i] = byte(i*7 + i>>8)
	}
	for _, tail := range tails() {
		for _, n := range []int{0, 1, 2, 3, 4, 5, 63, 64, 255, 256, 257, 65535, 65536} {
			r := wire.New(append(wire.Sized(nil, all[:n]), tail...))
			if got := r.Sized(); !bytes.Equal(got, all[:n]) || r.Left() != len(tail) || r.Wrong() != api.OK {
				t.Errorf("a text of %d bytes is read as one of %d, with %d left of %d", n, len(got), r.Left(), len(tail))
			}
		}
	}
}

// P1.5: lists, with most as small as it may be.
func TestLaidListsAreRead(t *testing.T) {
	for _, tail := range tails() {
		for n := range 40 {
			l := make([][]byte, n)
			for i := range l {
				l[i] = bytes.Repeat([]byte{byte(i)}, i*i%11)
			}
			r := wire.New(append(wire.List(nil, l), tail...))
			got := r.List(n)
			if len(got) != n || r.Left() != len(tail) || r.Wrong() != api.OK {
				t.Fatalf("a list of %d texts is read as one of %d, with %d left of %d", n, len(got), r.Left(), len(tail))
			}
			for i := range l {
				if !bytes.Equal(got[i], l[i]) {
					t.Errorf("text %d is %x, want %x", i, got[i], l[i])
				}
			}
		}
	}
}

// P1.5: of all kinds, one behind the other.
func TestLaidThingsAreReadInTheirOrder(t *testing.T) {
	l := [][]byte{[]byte("x"), nil, []byte("yz")}
	b := wire.Put([]byte("raw"), 0xabcdef, 3)
	b = wire.Sized(b, []byte("text"))
	b = wire.List(b, l)
	b = wire.Put(b, 1, 8)
	r := wire.New(b)
	if x := r.Raw(3); string(x) != "raw" {
		t.Errorf("Raw(3) = %q", x)
	}
	if v := r.Num(3); v != 0xabcdef {
		t.Errorf("Num(3) = %x", v)
	}
	if x := r.Sized(); string(x) != "text" {
		t.Errorf("Sized() = %q", x)
	}
	if got := r.List(3); len(got) != 3 || string(got[0]) != "x" || len(got[1]) != 0 || string(got[2]) != "yz" {
		t.Errorf("List(3) = %q", got)
	}
	if v := r.Num(8); v != 1 || r.Done() != api.OK {
		t.Errorf("Num(8) = %d, Done() = %d", v, int(r.Done()))
	}
}
