package store_test

import (
	"bytes"
	"math"
	"testing"

	"coffret/api"
	"coffret/disk"
	"coffret/sample"
	"coffret/store"
)

// The chapter's example 1.
func TestExample(t *testing.T) {
	s := opened(t, made(t, 8))
	if s.Left() != 2 {
		t.Errorf("Left: %d", s.Left())
	}
}

// checkNoStore tells whether Open comes to an error, and to no store, and leaves the disk alone.
func checkNoStore(t *testing.T, what string, d *disk.Disk, want api.Errno) {
	t.Helper()
	before := d.Clone()
	if s, e := store.Open(d); s != nil || e != want {
		t.Errorf("%s: %v, error %d, want %d", what, s, int(e), int(want))
	}
	if before != nil {
		sameDisks(t, what, d, before)
	}
}

// P15.1: of a disk that is nil, or made by none, ErrNil.
func TestOpenOfNone(t *testing.T) {
	checkNoStore(t, "nil", nil, api.ErrNil)
	checkNoStore(t, "a plain disk", &disk.Disk{}, api.ErrNil)
	armed := &disk.Disk{}
	armed.Arm(0)
	armed.Write(0, nil)
	checkNoStore(t, "a plain disk that would fall", armed, api.ErrNil)
}

// down is a disk of so many sectors that has gone down, with a write under way.
func down(t *testing.T, n int) *disk.Disk {
	t.Helper()
	d := made(t, n)
	d.Arm(0)
	checkError(t, "Write", d.Write(0, []byte("ab")), api.ErrDown)
	return d
}

// P15.1: of a disk that is down ErrDown, ahead of ErrArg; be there a store on it or not.
func TestOpenOfOneThatIsDown(t *testing.T) {
	for _, n := range []int{1, 2, 7, 8, 9, 20, 2048} {
		checkNoStore(t, "down", down(t, n), api.ErrDown)
	}
	d := made(t, 10)
	s := opened(t, d)
	d.Arm(1)
	checkError(t, "Commit", s.Commit([]change{put("a", "1")}), api.ErrDown)
	checkNoStore(t, "down", d, api.ErrDown)
	d.Fall(nil)
	checkValues(t, "behind the fall", opened(t, d), nil)
}

// P15.1: of fewer than 8 sectors ErrArg, and nothing is written.
func TestOpenOfFewSectors(t *testing.T) {
	for n := 1; n < 8; n++ {
		d := made(t, n)
		checkNoStore(t, "few sectors", d, api.ErrArg)
		d.Arm(0)
		checkNoStore(t, "few sectors, armed", d, api.ErrArg)
	}
	d := made(t, 7)
	laid(t, d, 0, plainSectors(1, 0, []byte{0, 0}))
	laid(t, d, 3, plainSectors(2, 0, []byte{0, 0}))
	checkNoStore(t, "few sectors, with stores", d, api.ErrArg)
}

// P15.1: on a new disk an empty record of the number 0, of the generation 1, at the beginning of the first half, that is safe; nothing else, in the last sector of an odd number neither.
func TestOpenOfNew(t *testing.T) {
	for _, n := range []int{8, 9, 10, 11, 12, 13, 100, 101, 2047, 2048} {
		d := made(t, n)
		s := opened(t, d)
		if s.Left() != n/2-2 || s.Moves() != 0 || s.Stopped() || len(s.Keys("")) != 0 {
			t.Errorf("of %d sectors: Left %d, Moves %d, Stopped %v, keys %q", n, s.Left(), s.Moves(), s.Stopped(), s.Keys(""))
		}
		want := made(t, n)
		laid(t, want, 0, plainSectors(1, 0, []byte{0, 0}))
		sameDisks(t, "Open", d, want)
	}
}

// P15.1: the bytes of that record, one by one.
func TestEmptyRecord(t *testing.T) {
	d := made(t, 8)
	opened(t, d)
	mark := "\x01CST" + "\x00\x00\x00\x00\x00\x00\x00\x01" + "\x00\x00\x00\x00\x00\x00\x00\x00" + "\x00\x00\x00\x02" +
		"\x96\xa2\x96\xd2\x24\xf2\x85\xc6\x7b\xee\x93\xc3\x0f\x8a\x30\x91\x57\xf0\xda\xa3\x5d\xc5\xb8\x7e\x41\x0b\x78\x63\x0a\x09\xcf\xc7" + "\x00\x00\x00\x00\x00\x00\x00\x00"
	zeros := string(make([]byte, 256))
	for i, want := range []string{mark + zeros[:128] + mark, "\x02" + zeros[:255], zeros, zeros, zeros, zeros, zeros, zeros} {
		if b, _ := d.Safe(i); string(b) != want {
			t.Errorf("the sector %d is %x, want %x", i, b, want)
		}
	}
}

// P15.1: whatever is on a disk, where no half has a store one is begun in the first half, and nothing else is touched.
func TestOpenOfOneWithOtherThings(t *testing.T) {
	for _, n := range []int{8, 9, 12} {
		for _, b := range [][]byte{sample.Ones(256), sample.Text(256), []byte("\x01CST"), {2}} {
			d := made(t, n)
			for i := range n {
				d.Write(i, b)
			}
			d.Sync()
			want := d.Clone()
			laid(t, want, 0, plainSectors(1, 0, []byte{0, 0}))
			c := paired(t, d)
			sameDisks(t, "Open", d, want)
			checkError(t, "Commit", c.commit(t, []change{put("a", "1")}), api.OK)
			checkError(t, "Commit", c.commit(t, []change{put("b", "2")}), api.OK)
			c.again(t)
		}
	}
}

// P15.1: a store that is there is told as it is, and nothing is written.
func TestOpenAgain(t *testing.T) {
	d := made(t, 24)
	c := paired(t, d)
	for k := range 40 {
		d.Arm(0) // at the first call of Write or Sync it would go down
		other := opened(t, d)
		d.Arm(-1)
		if other.Left() != c.s.Left() || other.Moves() != c.s.Moves() || other.Stopped() {
			t.Errorf("opened again: Left %d, Moves %d, Stopped %v, want %d, %d", other.Left(), other.Moves(), other.Stopped(), c.s.Left(), c.s.Moves())
		}
		checkValues(t, "opened again", other, c.p.values())
		c.same(t, "beside it")
		l := []change{{Key: string(rune('a' + k%7)), Value: sample.Text(k * 7), Gone: k%5 == 4}}
		checkError(t, "Commit", c.commit(t, l), api.OK)
		if k%3 == 0 {
			c = c.again(t)
		}
	}
	if c.s.Moves() < 5 {
		t.Errorf("it moved %d times", c.s.Moves())
	}
}

// P15.1: of two halves that have a store, the one with the greater generation has it; of the same generation the first.
func TestOpenOfTwo(t *testing.T) {
	generations := []uint64{1, 2, 3, 255, 256, 1 << 32, 1<<63 - 1, 1 << 63, math.MaxUint64 - 1, math.MaxUint64}
	for _, n := range []int{12, 13} {
		for _, one := range generations {
			for _, two := range generations {
				d := made(t, n)
				at := laid(t, d, 0, plainSectors(one, 0, plainBytes([]change{put("a", "1")})))
				laid(t, d, at, plainSectors(one, 1, plainBytes([]change{put("b", "1")})))
				laid(t, d, 6, plainSectors(two, 0, plainBytes([]change{put("a", "2")})))
				c := paired(t, d)
				values, left := map[string]string{"a": "1", "b": "1"}, 2
				if two > one {
					values, left = map[string]string{"a": "2"}, 4
				}
				checkValues(t, "of two", c.s, values)
				if c.s.Left() != left || c.s.Moves() != max(one, two)-1 {
					t.Errorf("generations %d, %d: Left %d, Moves %d", one, two, c.s.Left(), c.s.Moves())
				}
				checkError(t, "Commit", c.commit(t, []change{put("c", "3")}), api.OK)
				c.again(t)
			}
		}
	}
}

// P15.1: a store in the second half alone is the store.
func TestOpenOfTheSecondHalf(t *testing.T) {
	for _, n := range []int{8, 9, 10, 11} {
		for _, generation := range []uint64{1, 2, 7} {
			d := made(t, n)
			laid(t, d, n/2, plainSectors(generation, 0, plainBytes([]change{put("a", "2")})))
			c := paired(t, d)
			checkValues(t, "the second half", c.s, map[string]string{"a": "2"})
			if c.s.Left() != n/2-2 || c.s.Moves() != generation-1 {
				t.Errorf("Left %d, Moves %d", c.s.Left(), c.s.Moves())
			}
			for range 4 {
				checkError(t, "Commit", c.commit(t, []change{put("b", "3")}), api.OK)
				c = c.again(t)
			}
		}
	}
	// Where the second half begins hangs on the number of sectors.
	for _, at := range []int{4, 6, 7, 8, 9} {
		d := made(t, 11)
		laid(t, d, at, plainSectors(3, 0, plainBytes([]change{put("a", "2")})))
		checkValues(t, "beside the half", paired(t, d).s, nil)
	}
}

// generationsAndNumbers are those of a record behind one of the generation 5 and the number 0.
var generationsAndNumbers = [][2]uint64{{5, 0}, {5, 2}, {5, 3}, {5, math.MaxUint64}, {5, 1 << 32}, {5, 1<<32 + 1}, {5, 257}, {4, 1}, {6, 1}, {0, 1}, {1, 1}, {5 + 1<<32, 1}, {5 + 256, 1}, {math.MaxUint64, 1}, {6, 0}, {4, 0}}

// P15.1: behind the record of the number 0 stands that of the number 1, of its generation; another one is none, and is written over.
func TestOpenOfAnotherNumber(t *testing.T) {
	for _, x := range generationsAndNumbers {
		d := made(t, 16)
		at := laid(t, d, 0, plainSectors(5, 0, plainBytes([]change{put("a", "0")})))
		laid(t, d, at, plainSectors(x[0], x[1], plainBytes([]change{put("a", "1")})))
		laid(t, d, at+2, plainSectors(5, 2, plainBytes([]change{put("a", "2")})))
		c := paired(t, d)
		checkValues(t, "another one", c.s, map[string]string{"a": "0"})
		if c.s.Left() != 6 {
			t.Errorf("%d: Left %d", x, c.s.Left())
		}
		// Its place is taken by a record of two sectors: what stands behind it follows then.
		checkError(t, "Commit", c.commit(t, []change{put("b", "1")}), api.OK)
		checkValues(t, "opened again", opened(t, d), map[string]string{"a": "2", "b": "1"})
	}
	d := made(t, 16)
	at := laid(t, d, 0, plainSectors(5, 0, plainBytes(nil)))
	at = laid(t, d, at, plainSectors(5, 1, plainBytes([]change{put("a", "1"), put("b", "1")})))
	at = laid(t, d, at, plainSectors(5, 2, plainBytes([]change{put("a", "2"), gone("b"), put("c", "2")})))
	laid(t, d, at, plainSectors(5, 3, plainBytes(nil)))
	c := paired(t, d)
	checkValues(t, "one behind the other", c.s, map[string]string{"a": "2", "c": "2"})
	if c.s.Left() != 0 {
		t.Errorf("Left %d", c.s.Left())
	}
}

// P15.1: a half begins with the record of the number 0, of a generation from 1 on; else it has none.
func TestOpenOfNoFirst(t *testing.T) {
	for _, x := range [][2]uint64{{0, 0}, {0, 1}, {1, 1}, {7, 1}, {7, 2}, {7, 256}, {7, 1 << 32}, {7, math.MaxUint64}} {
		for _, begin := range []int{0, 8} {
			d := made(t, 16)
			laid(t, d, begin, plainSectors(x[0], x[1], plainBytes([]change{put("a", "0")})))
			laid(t, d, begin+2, plainSectors(x[0], x[1]+1, plainBytes([]change{put("b", "1")})))
			laid(t, d, begin+4, plainSectors(3, 0, plainBytes([]change{put("c", "1")})))
			c := paired(t, d)
			checkValues(t, "no first", c.s, nil)
			if c.s.Left() != 6 || c.s.Moves() != 0 {
				t.Errorf("%d: Left %d, Moves %d", x, c.s.Left(), c.s.Moves())
			}
			// The other half counts, whatever this one says.
			d = made(t, 16)
			laid(t, d, begin, plainSectors(x[0], x[1], plainBytes([]change{put("a", "0")})))
			laid(t, d, 8-begin, plainSectors(3, 0, plainBytes([]change{put("c", "1")})))
			checkValues(t, "the other half", paired(t, d).s, map[string]string{"c": "1"})
		}
	}
}

// three is a disk whose first half has three records, of which the second has three sectors.
func three(t *testing.T) *disk.Disk {
	t.Helper()
	d := made(t, 20)
	s := opened(t, d)
	checkError(t, "Commit", s.Commit([]change{put("a", "0"), put("b", "0"), put("c", string(sample.Text(300)))}), api.OK)
	checkError(t, "Commit", s.Commit([]change{put("a", "1")}), api.OK)
	return d
}

// P15.1: a record of which any bit is another is not whole; it, and what is behind it, are not there then.
func TestOpenOfTorn(t *testing.T) {
	d := three(t)
	checkValues(t, "whole", opened(t, d), map[string]string{"a": "1", "b": "0", "c": string(sample.Text(300))})
	want := []map[string]string{nil, {}, {"a": "0", "b": "0", "c": string(sample.Text(300))}}
	left := []int{8, 8, 5}
	for i := range 7 {
		number := []int{0, 0, 1, 1, 1, 2, 2}[i]
		b, _ := d.Read(i)
		for bit := range 8 * 256 {
			d.Write(i, sample.Turned(b, bit))
			s := opened(t, d)
			if !hasValues(s, want[number]) || s.Left() != left[number] {
				t.Fatalf("the sector %d, the bit %d turned: %q, Left %d", i, bit, s.Keys(""), s.Left())
			}
			d.Write(i, b)
			if number == 0 { // it was begun anew
				d = three(t)
			}
		}
	}
}

// P15.1: a sector of which the beginning is one's, and the end another's, is not whole.
func TestOpenOfCut(t *testing.T) {
	for i := 2; i < 5; i++ {
		for n := range 257 {
			for _, old := range [][]byte{nil, sample.Ones(256), plainSectors(1, 1, []byte{0, 0})[0], plainSectors(7, 1, []byte("xyz"))[0]} {
				d := three(t)
				b, _ := d.Read(i)
				torn := append(bytes.Clone(b[:n]), append(bytes.Clone(old), make([]byte, 256-len(old))...)[n:]...)
				laid(t, d, i, [][]byte{torn})
				c := paired(t, d)
				if bytes.Equal(torn, b) == (c.s.Left() == 8) {
					t.Errorf("the sector %d, %d bytes: Left %d", i, n, c.s.Left())
				}
			}
		}
	}
}

// P15.1: a record whose end is behind its half's is not whole, though all its sectors are there.
func TestOpenOfOneBehindTheEnd(t *testing.T) {
	for _, n := range []int{8, 9, 12, 13} {
		h := n / 2
		for k := 2; k <= h+1; k++ { // so many sectors has the record of the number 0
			d := made(t, n)
			laid(t, d, 0, plainSectors(4, 0, plainBytes(filling("a", k))))
			s := opened(t, d)
			if k <= h && (s.Moves() != 3 || s.Left() != h-k) || k > h && (s.Moves() != 0 || s.Left() != h-2) {
				t.Errorf("%d of %d sectors: Moves %d, Left %d", k, n, s.Moves(), s.Left())
			}
		}
		for k := 2; k <= h; k++ { // or that of the number 1
			d := made(t, n)
			at := laid(t, d, 0, plainSectors(4, 0, plainBytes(nil)))
			laid(t, d, at, plainSectors(4, 1, plainBytes(filling("a", k))))
			s := opened(t, d)
			if want := h - 2 - k; s.Moves() != 3 || want >= 0 && s.Left() != want || want < 0 && s.Left() != h-2 {
				t.Errorf("2 and %d of %d sectors: Moves %d, Left %d", k, n, s.Moves(), s.Left())
			}
		}
		// What would follow behind the first half's end is the second half's.
		d := made(t, n)
		laid(t, d, 0, plainSectors(4, 0, plainBytes(filling("a", h))))
		laid(t, d, h, plainSectors(4, 1, plainBytes([]change{put("b", "1")})))
		if s := opened(t, d); s.Left() != 0 || len(s.Keys("")) != 1 {
			t.Errorf("of %d sectors: Left %d, keys %q", n, s.Left(), s.Keys(""))
		}
	}
	// The last sector of an odd number is in no half.
	d := made(t, 9)
	laid(t, d, 4, plainSectors(4, 0, plainBytes(filling("a", 5))))
	checkValues(t, "behind the end", paired(t, d).s, nil)
}

// P15.1: the mark tells how many bytes there are; where that is another number than what stands there has, the record is not whole.
func TestOpenOfAnotherSize(t *testing.T) {
	text := plainBytes([]change{put("a", "0"), put("b", "1")})
	sectors := plainSectors(4, 0, text)
	for _, size := range []int{0, 1, 2, len(text) - 1, len(text), len(text) + 1, 255, 256, 510, 765, 1020, 1 << 16, 1 << 24, 1 << 31, math.MaxUint32 - 254, math.MaxUint32} {
		b := bytes.Clone(sectors[0])
		for _, at := range []int{20, 212} {
			for i := range 4 {
				b[at+i] = byte(size >> (24 - 8*i))
			}
		}
		d := made(t, 8)
		laid(t, d, 0, [][]byte{b, sectors[1]})
		if s := opened(t, d); (s.Moves() == 3) != (size == len(text)) {
			t.Errorf("%d bytes: Moves %d", size, s.Moves())
		}
	}
	// Nor is it of bytes that are no changes, though the sum is theirs.
	for n := range 600 {
		d := made(t, 12)
		laid(t, d, 0, plainSectors(4, 0, append(bytes.Clone(text), make([]byte, 600)...)[:n]))
		if s := opened(t, d); (s.Moves() == 3) != (n == len(text)) {
			t.Errorf("%d bytes: Moves %d", n, s.Moves())
		}
	}
}

// wrongTexts are bytes of records that are none of changes that may be.
func wrongTexts() map[string][]byte {
	many := make([]change, 4097)
	for i := range many {
		many[i] = gone("a")
	}
	one := plainBytes([]change{put("a", "0")})
	hidden := bytes.Clone(one)
	hidden[2] = 1
	other := bytes.Clone(one)
	other[2] = 2
	return map[string][]byte{
		"none":                      nil,
		"half a count":              {0},
		"a count alone":             {0, 1},
		"a greater count":           append([]byte{0, 2}, one[2:]...),
		"a smaller count":           append([]byte{0, 0}, one[2:]...),
		"bytes left":                append(bytes.Clone(one), 0),
		"a byte missing":            one[:len(one)-1],
		"a Key of none":             plainBytes([]change{put("", "0")}),
		"a Key of 97":               plainBytes([]change{put(string(sample.Text(97)), "0")}),
		"a second Key of none":      plainBytes([]change{put("a", "0"), put("", "0")}),
		"a Value of too many":       plainBytes([]change{put("a", string(make([]byte, 65537)))}),
		"4097":                      plainBytes(many),
		"neither gone nor not":      other,
		"gone, with a value":        hidden,
		"a Gone Key of none":        plainBytes([]change{gone("")}),
		"a Gone Key of too many":    plainBytes([]change{gone(string(sample.Text(97)))}),
		"a Key longer than is left": {0, 1, 0, 0, 0, 0, 90, 'a', 0, 0, 0, 0},
	}
}

// P15.1: a record whose changes may not be, or that has other bytes than theirs, is not whole, be it the first or another.
func TestOpenOfNoChanges(t *testing.T) {
	for what, text := range wrongTexts() {
		d := made(t, 600)
		laid(t, d, 0, plainSectors(4, 0, text))
		if c := paired(t, d); c.s.Moves() != 0 || len(c.s.Keys("")) != 0 {
			t.Errorf("%s: Moves %d, keys %q", what, c.s.Moves(), c.s.Keys(""))
		}
		d = made(t, 600)
		at := laid(t, d, 0, plainSectors(4, 0, plainBytes([]change{put("z", "0")})))
		laid(t, d, at, plainSectors(4, 1, text))
		if c := paired(t, d); c.s.Moves() != 3 || c.s.Left() != 298 || len(c.s.Keys("")) != 1 {
			t.Errorf("%s: Moves %d, Left %d, keys %q", what, c.s.Moves(), c.s.Left(), c.s.Keys(""))
		}
	}
}

// P15.1: at the edges a record is whole: of no changes, of 4096, of a Key of 96 bytes, a Value of 65536, a Key that is there twice.
func TestOpenOfTheEdges(t *testing.T) {
	many := make([]change, 4096)
	for i := range many {
		many[i] = put(string(sample.Text(1+i%96)), "x")
	}
	for what, l := range map[string][]change{
		"none":  nil,
		"4096":  many,
		"sizes": {put(string(sample.Text(96)), string(sample.Text(65536))), gone(string(sample.Ones(96)))},
		"twice": {put("a", "1"), gone("a"), put("a", "2"), put("b", "1"), gone("b")},
	} {
		d := made(t, 2048)
		laid(t, d, 0, plainSectors(4, 0, plainBytes(l)))
		c := paired(t, d)
		if c.s.Moves() != 3 || c.s.Left() != 1024-plainCount(l) {
			t.Errorf("%s: Moves %d, Left %d", what, c.s.Moves(), c.s.Left())
		}
	}
}

// P15.1, P15.4: where the disk falls within Open, Open tells its error, and no store; behind the fall Open has an empty one.
func TestOpenFalls(t *testing.T) {
	for n := range 4 {
		for _, fate := range fates() {
			for _, old := range [][]byte{nil, sample.Ones(256)} {
				d := made(t, 9)
				laid(t, d, 0, [][]byte{old, old, old, old, old, old, old, old, old})
				d.Arm(n)
				s, e := store.Open(d)
				if s != nil || e != api.ErrDown || !d.Down() {
					t.Errorf("Arm(%d): %v, error %d", n, s, int(e))
				}
				checkNoStore(t, "down", d, api.ErrDown)
				d.Fall([]disk.Fate{fate})
				c := paired(t, d)
				if c.s.Left() != 2 || c.s.Moves() != 0 || c.s.Stopped() || len(c.s.Keys("")) != 0 {
					t.Errorf("Arm(%d): Left %d, Moves %d, Stopped %v, keys %q", n, c.s.Left(), c.s.Moves(), c.s.Stopped(), c.s.Keys(""))
				}
				checkError(t, "Commit", c.commit(t, []change{put("a", "1")}), api.OK)
			}
		}
	}
	d := made(t, 8)
	d.Arm(4)
	opened(t, d)
	if d.Down() {
		t.Error("Open writes more than an empty record")
	}
}
