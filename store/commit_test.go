package store_test

import (
	"fmt"
	"math"
	"testing"

	"coffret/api"
	"coffret/disk"
	"coffret/sample"
	"coffret/store"
)

// P15.2: no changes are OK, and nothing is written; of a store that is nil, plain or has stopped they are not.
func TestCommitOfNone(t *testing.T) {
	for _, l := range [][]change{nil, {}, make([]change, 0, 5)} {
		c := paired(t, made(t, 8))
		c.arm(0)
		checkError(t, "Commit", c.commit(t, l), api.OK)
		c.arm(-1)
		for range 3 {
			checkError(t, "Commit", c.commit(t, []change{put("a", "1")}), api.OK)
			checkError(t, "Commit", c.commit(t, l), api.OK)
		}
	}
	d := made(t, 8)
	s := opened(t, d)
	d.Arm(0)
	d.Write(7, nil)
	checkError(t, "of a disk that is down", s.Commit(nil), api.OK)
	if s.Stopped() {
		t.Error("it has stopped, though nothing was to be written")
	}
}

// wrongChanges are those that may not be, by what is wrong.
func wrongChanges() map[string][]change {
	return map[string][]change{
		"a Key of none":                {put("", "1")},
		"a Key of 97":                  {put(string(sample.Text(97)), "1")},
		"a Key of many":                {put(string(make([]byte, 1<<20)), "1")},
		"a Value of 65537":             {put("a", string(make([]byte, 65537)))},
		"a Value of many":              {put("a", string(make([]byte, 1<<20)))},
		"a Gone Key of none":           {gone("")},
		"a Gone Key of 97":             {gone(string(sample.Text(97)))},
		"a Gone Key's Value of 65537":  {{Key: "a", Value: make([]byte, 65537), Gone: true}},
		"the last Key of none":         {put("a", "1"), gone("b"), put("", "")},
		"the first Key of none":        {gone(""), put("a", "1")},
		"the last Value of 65537":      {put("a", "1"), put("b", string(make([]byte, 65537)))},
		"a plain Change":               {{}},
		"4097":                         many(4097),
		"65536, as two bytes tell 0":   many(65536),
		"65537, as two bytes tell one": many(65537),
		"8192":                         many(8192),
	}
}

// many are so many changes of one Key.
func many(n int) []change {
	l := make([]change, n)
	for i := range l {
		l[i] = put("a", "")
	}
	l[n-1] = put("a", "last")
	return l
}

// P15.2: changes that may not be are ErrArg, and nothing is changed or written, whatever the others are.
func TestCommitOfWrongChanges(t *testing.T) {
	for _, n := range []int{8, 2048} {
		c := paired(t, made(t, n))
		checkError(t, "Commit", c.commit(t, []change{put("a", "0"), put("b", "0")}), api.OK)
		for what, l := range wrongChanges() {
			c.arm(0)
			checkError(t, what, c.commit(t, l), api.ErrArg)
			c.arm(-1)
		}
		c.again(t)
	}
}

// P15.2: at the edges they may be: a Key of 1 and of 96 bytes, any of them; a Value of none and of 65536; 4096 changes.
func TestCommitAtTheEdges(t *testing.T) {
	for what, l := range map[string][]change{
		"Keys":        {put("a", "1"), put("\x00", "2"), put("\xff", "3"), put(string(sample.Text(96)), "4"), put(string(sample.Text(95)), "5")},
		"Values":      {put("a", ""), {Key: "b", Value: nil}, put("c", string(sample.Text(65536))), put("d", string(sample.Text(65535)))},
		"4096":        many(4096),
		"4095":        many(4095),
		"Gone":        {gone("a"), gone(string(sample.Ones(96)))},
		"Gone Values": {{Key: "z", Value: sample.Text(65536), Gone: true}, {Key: "b", Value: sample.Text(3), Gone: true}},
	} {
		c := paired(t, made(t, 2048))
		checkError(t, what, c.commit(t, []change{put("z", "0"), put("a", "0")}), api.OK)
		checkError(t, what, c.commit(t, l), api.OK)
		c.again(t)
	}
}

// P15.2: changes are made one behind the other, a Key that is gone, that was never there, or that is there twice too.
func TestCommitInOrder(t *testing.T) {
	for what, x := range map[string]struct {
		l    []change
		want map[string]string
	}{
		"a Key anew":            {[]change{put("a", "1")}, map[string]string{"a": "1", "b": "0"}},
		"a Key more":            {[]change{put("c", "1")}, map[string]string{"a": "0", "b": "0", "c": "1"}},
		"a Key that is gone":    {[]change{gone("a")}, map[string]string{"b": "0"}},
		"one that wasn't there": {[]change{gone("c")}, map[string]string{"a": "0", "b": "0"}},
		"all":                   {[]change{gone("a"), gone("b")}, nil},
		"twice":                 {[]change{put("a", "1"), put("a", "2")}, map[string]string{"a": "2", "b": "0"}},
		"twice, gone last":      {[]change{put("a", "1"), gone("a")}, map[string]string{"b": "0"}},
		"twice, gone first":     {[]change{gone("a"), put("a", "1")}, map[string]string{"a": "1", "b": "0"}},
		"gone twice":            {[]change{gone("a"), gone("a")}, map[string]string{"b": "0"}},
		"there and gone":        {[]change{put("c", "1"), gone("c")}, map[string]string{"a": "0", "b": "0"}},
		"of no bytes":           {[]change{put("a", "")}, map[string]string{"a": "", "b": "0"}},
		"gone, with a Value":    {[]change{{Key: "a", Value: []byte("1"), Gone: true}}, map[string]string{"b": "0"}},
		"as it was":             {[]change{put("a", "0")}, map[string]string{"a": "0", "b": "0"}},
	} {
		for _, n := range []int{12, 8} { // of 8 sectors it moves
			c := paired(t, made(t, n))
			checkError(t, what, c.commit(t, []change{put("a", "0"), put("b", "0")}), api.OK)
			checkError(t, what, c.commit(t, x.l), api.OK)
			checkValues(t, what, c.s, x.want)
			checkValues(t, what, c.again(t).s, x.want)
			if moved := c.s.Moves() == 1; moved != (n == 8) {
				t.Errorf("%s: Moves %d", what, c.s.Moves())
			}
		}
	}
}

// P15.2: ErrNil, of one that is nil or that Open did not make, whatever the changes are.
func TestCommitOfNil(t *testing.T) {
	var s *store.Store
	for _, l := range [][]change{nil, {put("a", "1")}, {put("", "1")}, many(4097)} {
		checkError(t, "nil", s.Commit(l), api.ErrNil)
		checkError(t, "plain", (&store.Store{}).Commit(l), api.ErrNil)
	}
}

// P15.2: which error is told, where several are due: ErrState, ErrArg, ErrFull, the disk's.
func TestCommitErrors(t *testing.T) {
	full := []change{put("a", string(sample.Text(2000)))}
	c := paired(t, made(t, 8))
	c.arm(0)
	for what, l := range wrongChanges() {
		checkError(t, what, c.commit(t, l), api.ErrArg)
	}
	checkError(t, "full, on a disk that would fall", c.commit(t, full), api.ErrFull)
	if c.d.Down() || c.s.Stopped() {
		t.Error("something was written")
	}
	c.d.Write(7, nil)
	c.p.d.Write(7, nil)
	checkError(t, "full, on a disk that is down", c.commit(t, full), api.ErrFull)
	checkError(t, "wrong, on a disk that is down", c.commit(t, []change{put("", "")}), api.ErrArg)
	checkError(t, "4097 and full", c.commit(t, append(many(4097), full...)), api.ErrArg)
	checkError(t, "on a disk that is down", c.commit(t, []change{put("a", "1")}), api.ErrDown)
	for what, l := range wrongChanges() {
		checkError(t, what, c.commit(t, l), api.ErrState)
	}
	checkError(t, "full, and it has stopped", c.commit(t, full), api.ErrState)
	checkError(t, "none, and it has stopped", c.commit(t, nil), api.ErrState)
	checkError(t, "it has stopped", c.commit(t, []change{put("a", "1")}), api.ErrState)
}

// P15.2: the sectors that a record has: of 255 bytes one behind the mark's, of one more two.
func TestRecordsOfSizes(t *testing.T) {
	for _, size := range []int{12, 13, 254, 255, 256, 509, 510, 511, 764, 765, 766, 1019, 1020, 1021} {
		d := made(t, 40)
		s := opened(t, d)
		want := made(t, 40)
		laid(t, want, 0, plainSectors(1, 0, []byte{0, 0}))
		l := wide("k", size)
		checkError(t, "Commit", s.Commit(l), api.OK)
		at := laid(t, want, 2, plainSectors(1, 1, plainBytes(l)))
		sameDisks(t, "Commit", d, want)
		if left := 20 - 3 - (size+254)/255; s.Left() != left || at != 20-left || len(plainBytes(l)) != size {
			t.Errorf("%d bytes: Left %d, want %d", size, s.Left(), left)
		}
		checkError(t, "Commit", s.Commit([]change{gone("k")}), api.OK)
		laid(t, want, at, plainSectors(1, 2, plainBytes([]change{gone("k")})))
		sameDisks(t, "Commit", d, want)
	}
}

// P15.2: the bytes of a record, one by one.
func TestRecordBytes(t *testing.T) {
	d := made(t, 12)
	s := opened(t, d)
	checkError(t, "Commit", s.Commit([]change{put("ab", "xyz"), {Key: "c", Value: []byte("not kept"), Gone: true}, put("d", "")}), api.OK)
	text := "\x00\x03" + "\x00\x00\x00\x00\x02ab\x00\x00\x00\x03xyz" + "\x01\x00\x00\x00\x01c\x00\x00\x00\x00" + "\x00\x00\x00\x00\x01d\x00\x00\x00\x00"
	for i, want := range plainSectors(1, 1, []byte(text)) {
		if b, _ := d.Safe(2 + i); string(b) != string(want) {
			t.Errorf("the sector %d is %x, want %x", 2+i, b, want)
		}
	}
	if b, _ := d.Safe(3); string(b[:1+len(text)]) != "\x02"+text {
		t.Errorf("behind the mark stands %x", b)
	}
}

// P15.2: a record is written as far as it has room in the half; where it has not, the store moves, and moves again, all its keys rising.
func TestRoomAndMoves(t *testing.T) {
	for _, n := range []int{8, 9, 12, 13, 20, 21} {
		h := n / 2
		for k := 2; k <= h; k++ {
			c := paired(t, made(t, n))
			checkError(t, "Commit", c.commit(t, filling("k", k)), api.OK)
			if moved := k > h-2; moved != (c.s.Moves() == 1) || moved && c.s.Left() != h-k || !moved && c.s.Left() != h-2-k {
				t.Errorf("%d of %d sectors: Moves %d, Left %d", k, n, c.s.Moves(), c.s.Left())
			}
			for i := range 12 {
				checkError(t, "Commit", c.commit(t, []change{put("k", string(rune('a'+i)))}), api.OK)
				if i%4 == 0 {
					c = c.again(t)
				}
			}
			if c.s.Moves() < 2 {
				t.Errorf("%d sectors: Moves %d", n, c.s.Moves())
			}
		}
	}
}

// P15.2: what a moved store has on the disk: a record of the number 0, of the next generation, at the beginning of the other half; the half that it was in is left as it is.
func TestMovedBytes(t *testing.T) {
	d := made(t, 13)
	s := opened(t, d)
	want := d.Clone()
	l := [][]change{{put("b", "1"), put("a", "2")}, {put("c", string(sample.Text(300))), gone("b")}, {put("b", "3"), put("a\x00", ""), put("B", "4")}}
	checkError(t, "Commit", s.Commit(l[0]), api.OK)
	laid(t, want, 2, plainSectors(1, 1, plainBytes(l[0])))
	sameDisks(t, "Commit", d, want)
	checkError(t, "Commit", s.Commit(l[1]), api.OK)
	at := laid(t, want, 6, plainSectors(2, 0, plainBytes([]change{put("a", "2"), put("c", string(sample.Text(300)))})))
	sameDisks(t, "moved", d, want)
	checkError(t, "Commit", s.Commit(l[2]), api.OK)
	laid(t, want, at, plainSectors(2, 1, plainBytes(l[2])))
	sameDisks(t, "Commit", d, want)
	checkError(t, "Commit", s.Commit([]change{gone("c")}), api.OK)
	laid(t, want, 0, plainSectors(3, 0, plainBytes([]change{put("B", "4"), put("a", "2"), put("a\x00", ""), put("b", "3")})))
	sameDisks(t, "moved again", d, want)
	if s.Moves() != 2 || s.Left() != 4 {
		t.Errorf("Moves %d, Left %d", s.Moves(), s.Left())
	}
}

// P15.2: ErrFull, where there is no room in a half either: nothing changes then, and smaller changes are made still.
func TestFull(t *testing.T) {
	for _, n := range []int{8, 9, 12, 2048} {
		h := n / 2
		most := min(255*(h-1), 65536) // bytes that a record may have in a half, of one Value
		c := paired(t, made(t, n))
		if most < 65536 {
			checkError(t, "just full", c.commit(t, wide("k", most)), api.OK)
			if c.s.Left() != 0 || c.s.Moves() != 1 {
				t.Errorf("Left %d, Moves %d", c.s.Left(), c.s.Moves())
			}
			checkError(t, "one more", c.commit(t, wide("k", most+1)), api.ErrFull)
			checkError(t, "another key", c.commit(t, []change{put("l", "")}), api.ErrFull)
			checkError(t, "far more", c.commit(t, []change{put("k", string(make([]byte, 65536)))}), api.ErrFull)
			checkError(t, "as many", c.commit(t, wide("k", most)), api.OK)
			checkError(t, "another instead", c.commit(t, []change{gone("k"), put("l", "1")}), api.OK)
			checkValues(t, "another instead", c.again(t).s, map[string]string{"l": "1"})
		}
	}
	c := paired(t, made(t, 2048))
	var l []change
	for i := range 4 {
		l = append(l, put(fmt.Sprint(i), string(sample.Text(65536))))
	}
	checkError(t, "four great ones", c.commit(t, l), api.ErrFull)
	checkError(t, "three", c.commit(t, l[:3]), api.OK)
	checkError(t, "the fourth", c.commit(t, l[3:]), api.ErrFull)
	checkError(t, "the fourth for the third", c.commit(t, []change{gone("2"), l[3]}), api.OK)
	c.again(t)
}

// P15.2: changes whose record has no room in any half move the store, where what they leave has room; else they are refused, however much they are.
func TestMoreThanItLeaves(t *testing.T) {
	value := make([]byte, 65536)
	l := make([]change, 4096)
	for i := range l {
		l[i] = change{Key: "a", Value: value}
	}
	l[4095].Value = sample.Text(65536)
	s := opened(t, made(t, 8))
	checkError(t, "of 8 sectors", s.Commit(l), api.ErrFull)
	if s.Left() != 2 || s.Moves() != 0 || s.Stopped() || len(s.Keys("")) != 0 {
		t.Errorf("Left %d, Moves %d, Stopped %v, keys %q", s.Left(), s.Moves(), s.Stopped(), s.Keys(""))
	}
	s = opened(t, made(t, 2048))
	checkError(t, "of 2048 sectors", s.Commit(l), api.OK)
	checkValues(t, "of 2048 sectors", s, map[string]string{"a": string(sample.Text(65536))})
	if s.Moves() != 1 {
		t.Errorf("Moves %d", s.Moves())
	}
	c := paired(t, made(t, 8))
	checkError(t, "Commit", c.commit(t, []change{put("a", string(value)), gone("a"), put("b", "1")}), api.OK)
	checkValues(t, "what is left", c.again(t).s, map[string]string{"b": "1"})
	checkError(t, "Commit", c.commit(t, append(many(300), gone("a"), gone("b"))), api.OK)
	checkValues(t, "nothing is left", c.again(t).s, nil)
}

// keyed are so many changes of Keys of their own, of two bytes.
func keyed(from, n int) []change {
	var l []change
	for i := range n {
		l = append(l, put(string([]byte{byte((from + i) >> 8), byte(from + i)}), ""))
	}
	return l
}

// P15.2, P15.4: a store of more than 4096 keys can't move, as no whole record has them all: ErrFull, and nothing is lost; with fewer left it moves.
func TestMoveOfManyKeys(t *testing.T) {
	for _, n := range []int{4095, 4096, 4097, 5000} {
		c := paired(t, made(t, 2048))
		checkError(t, "Commit", c.commit(t, keyed(0, 4000)), api.OK)
		checkError(t, "Commit", c.commit(t, keyed(4000, n-4000)), api.OK)
		for range 3 {
			checkError(t, "Commit", c.commit(t, wide("\x00\x00", 255*249)), api.OK)
		}
		want := api.OK
		if n > 4096 {
			want = api.ErrFull
		}
		checkError(t, "as many", c.commit(t, wide("\x00\x00", 255*249)), want)
		c = c.again(t)
		if len(c.s.Keys("")) != n || (c.s.Moves() == 0) != (n > 4096) {
			t.Errorf("%d keys: %d, Moves %d", n, len(c.s.Keys("")), c.s.Moves())
		}
		if n == 4097 {
			l := append(wide("\x00\x00", 255*249), gone("\x00\x01"))
			checkError(t, "one less", c.commit(t, l), api.OK)
			if c = c.again(t); c.s.Moves() != 1 || len(c.s.Keys("")) != 4096 {
				t.Errorf("%d keys, Moves %d", len(c.s.Keys("")), c.s.Moves())
			}
		}
	}
}

// P15.2, P15.4: behind the last generation that eight bytes tell there is none to move to: ErrFull, and nothing is lost.
func TestMoveOfTheLastGeneration(t *testing.T) {
	for _, begin := range []int{0, 5} {
		d := made(t, 10)
		laid(t, d, begin, plainSectors(math.MaxUint64-1, 0, plainBytes([]change{put("a", "0")})))
		s := opened(t, d)
		checkError(t, "behind it", s.Commit([]change{put("b", "0")}), api.OK)
		checkError(t, "moved", s.Commit([]change{put("b", "1")}), api.OK)
		checkError(t, "behind it", s.Commit([]change{put("c", "1")}), api.OK)
		before := d.Clone()
		checkError(t, "no more", s.Commit([]change{put("d", "1")}), api.ErrFull)
		sameDisks(t, "no more", d, before)
		for _, s := range []*store.Store{s, opened(t, d)} {
			checkValues(t, "no more", s, map[string]string{"a": "0", "b": "1", "c": "1"})
			if s.Moves() != math.MaxUint64-1 || s.Left() != 1 || s.Stopped() {
				t.Errorf("Moves %d, Left %d, Stopped %v", s.Moves(), s.Left(), s.Stopped())
			}
		}
	}
}

// P15.2: the disk's error, at whatever call it comes: the store has stopped, and tells what it told before; nothing is written any more.
func TestCommitStops(t *testing.T) {
	for what, x := range map[string]struct {
		l     []change
		calls int // of Write and Sync
	}{
		"behind the last": {[]change{put("a", "1"), gone("b"), put("c", string(sample.Text(300)))}, 5},
		"moved":           {[]change{put("a", "1"), gone("b"), put("c", string(sample.Text(900)))}, 7},
	} {
		for n := range x.calls + 1 {
			c := paired(t, made(t, 16))
			checkError(t, "Commit", c.commit(t, []change{put("a", "0"), put("b", "0")}), api.OK)
			checkError(t, "Commit", c.commit(t, []change{put("z", "0")}), api.OK)
			c.arm(n)
			want := api.ErrDown
			if n == x.calls {
				want = api.OK
			}
			checkError(t, what, c.commit(t, x.l), want)
			if c.s.Stopped() != (n < x.calls) || c.d.Down() != (n < x.calls) {
				t.Errorf("%s, Arm(%d): Stopped %v, down %v", what, n, c.s.Stopped(), c.d.Down())
			}
			if n == x.calls {
				continue
			}
			for range 3 {
				checkError(t, "it has stopped", c.commit(t, x.l), api.ErrState)
			}
			c.fall(disk.Kept, disk.Kept, disk.Kept, disk.Kept, disk.Kept, disk.Kept)
			checkError(t, "it has stopped, though the disk is up", c.commit(t, x.l), api.ErrState)
			checkError(t, "it has stopped, though the disk is up", c.commit(t, nil), api.ErrState)
			checkValues(t, "it has stopped", c.s, map[string]string{"a": "0", "b": "0", "z": "0"})
			c.again(t)
		}
	}
}

// P15.2: a store goes on behind a fall that it did not meet, as all of it was safe.
func TestCommitBehindAFall(t *testing.T) {
	c := paired(t, made(t, 12))
	for i := range 10 {
		checkError(t, "Commit", c.commit(t, []change{put(string(rune('a'+i%3)), fmt.Sprint(i))}), api.OK)
		c.fall()
		c.same(t, "a fall")
	}
	c.again(t)
}
