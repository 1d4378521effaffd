package ring_test

import (
	"bytes"
	"fmt"
	"slices"
	"testing"

	"coffret/api"
	"coffret/ring"
	"coffret/sample"
)

// P16.4: the Wraps, and Dir, one behind the other; and back.
func TestPutAndRead(t *testing.T) {
	for _, mode := range modes() {
		for n := 1; n <= api.MaxMembers; n++ {
			c := paired(t, mode)
			r, k := c.made(t, 3, some(n))
			b := ring.Put(r)
			if want := append(slices.Concat(r.Wraps...), r.Dir...); !bytes.Equal(b, want) || len(b) != wholeBytes {
				t.Errorf("%d members: %s, want %s", n, shown(b), shown(want))
			}
			got, e := ring.Read(b)
			if e != api.OK {
				t.Errorf("%d members: error %d", n, int(e))
			}
			checkSame(t, "read", got, r)
			checkUnwrap(t, "read", c.b, got, keyOf(0), k)
			checkMembers(t, "read", c.b, got, k.Owner, some(n))
		}
	}
}

// P16.4: Put takes a Ring as it is, with more or fewer Wraps, of whatever lengths.
func TestPutOfOtherRings(t *testing.T) {
	for _, c := range []struct {
		r    ring.Ring
		want string
	}{
		{ring.Ring{}, ""},
		{ring.Ring{Wraps: [][]byte{}, Dir: []byte{}}, ""},
		{ring.Ring{Wraps: [][]byte{nil, {}, nil}}, ""},
		{ring.Ring{Dir: []byte("d")}, "d"},
		{ring.Ring{Wraps: [][]byte{[]byte("a")}}, "a"},
		{ring.Ring{Wraps: [][]byte{[]byte("a")}, Dir: []byte("d")}, "ad"},
		{ring.Ring{Wraps: [][]byte{[]byte("a"), nil, []byte("bc"), []byte("d")}, Dir: []byte("ef")}, "abcdef"},
		{ring.Ring{Wraps: [][]byte{nil, []byte("a")}, Dir: []byte("a")}, "aa"},
	} {
		if got := ring.Put(c.r); string(got) != c.want {
			t.Errorf("Put of %s: %q, want %q", shownRing(c.r), got, c.want)
		}
	}
	for n := range 20 {
		var r ring.Ring
		want := ""
		for i := range n {
			r.Wraps = append(r.Wraps, bytes.Repeat([]byte{byte(i)}, 101))
			want += string(r.Wraps[i])
		}
		r.Dir = sample.Text(301)
		if got := ring.Put(r); string(got) != want+string(r.Dir) {
			t.Errorf("Put of %d wraps: %s", n, shown(got))
		}
	}
}

// P16.4: Read takes just as many bytes, whatever they are, and cuts them off from the beginning on.
func TestReadOfAnyBytes(t *testing.T) {
	for what, b := range map[string][]byte{"text": sample.Text(wholeBytes), "ones": sample.Ones(wholeBytes), "zeros": make([]byte, wholeBytes)} {
		r, e := ring.Read(b)
		if e != api.OK || len(r.Wraps) != 8 {
			t.Fatalf("%s: %d wraps, error %d", what, len(r.Wraps), int(e))
		}
		checkLengths(t, r)
		for i, wrap := range r.Wraps {
			if !bytes.Equal(wrap, b[101*i:101*i+101]) {
				t.Errorf("%s: the wrap %d is %s", what, i, shown(wrap))
			}
		}
		if !bytes.Equal(r.Dir, b[808:]) || !bytes.Equal(ring.Put(r), b) {
			t.Errorf("%s: Dir is %s", what, shown(r.Dir))
		}
	}
}

// P16.4: any other number of bytes is ErrForm.
func TestReadOfOtherLengths(t *testing.T) {
	lengths := []int{0, 1, 100, 101, 102, 301, 807, 808, 809, 909, 1008, 1107, 1108, 1110, 1111, 1210, 2218, api.MaxSized, api.MaxSized + 1, 1 << 20}
	for n := range 1300 {
		lengths = append(lengths, n)
	}
	for _, n := range lengths {
		if n == wholeBytes {
			continue
		}
		if r, e := ring.Read(sample.Text(n)); e != api.ErrForm || len(r.Wraps) != 0 || len(r.Dir) != 0 {
			t.Errorf("%s: %s, error %d", fmt.Sprintf("%d bytes", n), shownRing(r), int(e))
		}
	}
	for _, b := range [][]byte{nil, {}, make([]byte, 0, wholeBytes), make([]byte, wholeBytes-1, wholeBytes)} {
		if r, e := ring.Read(b); e != api.ErrForm || len(r.Wraps) != 0 || len(r.Dir) != 0 {
			t.Errorf("%d bytes: %s, error %d", len(b), shownRing(r), int(e))
		}
	}
}
