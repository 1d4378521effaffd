package ring_test

import (
	"bytes"
	"slices"
	"testing"

	"coffret/api"
	"coffret/box"
	"coffret/ring"
	"coffret/sample"
)

// sparedMembers are members in memory whose spare room is known.
func sparedMembers(l []member) []member {
	return append(slices.Clone(l), member{Number: 77}, member{Number: 78, Owner: true}, member{Number: 79})[:len(l)]
}

func checkSparedMembers(t *testing.T, what string, own, l []member) {
	t.Helper()
	if want := sparedMembers(l)[:len(l)+3]; !slices.Equal(own[:len(l)+3], want) {
		t.Errorf("%s: the members are %v, want %v", what, own[:len(l)+3], want)
	}
}

// sparedRing is a ring in memory whose spare room is known.
func sparedRing(r ring.Ring) ring.Ring {
	out := ring.Ring{Dir: sample.Spared(r.Dir)}
	for _, wrap := range r.Wraps {
		out.Wraps = append(out.Wraps, sample.Spared(wrap))
	}
	out.Wraps = append(out.Wraps, []byte("spare"))[:len(r.Wraps)]
	return out
}

func checkSparedRing(t *testing.T, what string, own, r ring.Ring) {
	t.Helper()
	ok := len(own.Wraps) == len(r.Wraps) && sample.Untouched(own.Dir, r.Dir) && string(own.Wraps[:len(r.Wraps)+1][len(r.Wraps)]) == "spare"
	for i, wrap := range r.Wraps {
		ok = ok && sample.Untouched(own.Wraps[i], wrap)
	}
	if !ok {
		t.Errorf("%s: the ring is %s, want %s", what, shownRing(own), shownRing(r))
	}
}

// overwriteRing writes over all of a ring, its spare room too.
func overwriteRing(r ring.Ring) {
	for _, wrap := range r.Wraps {
		sample.Overwrite(wrap, 0xDD)
	}
	sample.Overwrite(r.Dir, 0xDD)
	sample.Overwrite(r.Wraps, []byte("other"))
}

// Rules 4 and 8: members that are handed in are as they were, their spare room too, and that is not read; those that may not be, too.
func TestMembersAreNotTouched(t *testing.T) {
	for _, mode := range modes() {
		for _, l := range [][]member{nil, some(1), some(3), some(8), some(9), {{}}, some(3)[1:]} {
			c := paired(t, mode)
			own := sparedMembers(l)
			ring.Check(own)
			c.make(t, 3, own)
			checkSparedMembers(t, "Make", own, l)
			c.again(t, ring.Keys{Epoch: 3, Key: keyOf(1)}, own)
			checkSparedMembers(t, "Again", own, l)
		}
	}
}

// Rule 4: members that are handed in are not kept: who writes over them changes no ring.
func TestMembersAreNotKept(t *testing.T) {
	for _, mode := range modes() {
		c := paired(t, mode)
		own := sparedMembers(some(3))
		first, k := c.made(t, 3, own)
		second, _ := c.again(t, k, own)
		sample.Overwrite(own, member{Number: 99})
		for _, r := range []ring.Ring{first, second} {
			checkMembers(t, "written over", c.b, r, k.Owner, some(3))
			checkUnwrap(t, "written over", c.b, r, keyOf(0), k)
		}
	}
}

// Rule 4: each list of a ring that is made is new memory, of its own, its spare room too: who writes over it, or behind it, changes neither another list, nor what the box opens.
func TestRingsAreNewMemory(t *testing.T) {
	for _, mode := range modes() {
		c := paired(t, mode)
		r, k := c.made(t, 3, some(2))
		second, _ := c.again(t, k, some(2))
		checkListsAlone(t, "Make", r)
		like := cloned(r)
		overwriteRing(r)
		checkUnwrap(t, "written over", c.b, like, keyOf(0), k)
		checkMembers(t, "written over", c.b, like, k.Owner, some(2))
		checkUnwrap(t, "another", c.b, second, keyOf(0), k)
		checkListsAlone(t, "Again", second)

		read, _ := ring.Read(ring.Put(like))
		checkListsAlone(t, "Read", read)
	}
}

// checkListsAlone tells whether no list of a ring reaches into another one.
func checkListsAlone(t *testing.T, what string, r ring.Ring) {
	t.Helper()
	lists := append(slices.Clone(r.Wraps), r.Dir)
	for i := range lists {
		before := slices.Clone(lists)
		for j := range before {
			before[j] = bytes.Clone(before[j])
		}
		sample.Overwrite(append(lists[i], 0xDD), 0xDD)
		sample.Overwrite(lists[i], 0xDD)
		for j := range lists {
			if j != i && !bytes.Equal(lists[j], before[j]) {
				t.Errorf("%s: the list %d reaches into the list %d", what, i, j)
			}
		}
		copy(lists[i], before[i])
	}
}

// Rules 4 and 8: a ring that is handed in is as it was, its spare room too, and that is not read.
func TestRingsAreNotTouched(t *testing.T) {
	for _, mode := range modes() {
		c := paired(t, mode)
		whole, k := c.made(t, 3, some(3))
		fewer, more := cloned(whole), cloned(whole)
		fewer.Wraps = fewer.Wraps[:1]
		more.Wraps = append(more.Wraps, []byte("x"), nil)
		for _, r := range []ring.Ring{whole, fewer, more, {}, {Wraps: [][]byte{nil}, Dir: whole.Dir[:300]}} {
			own := sparedRing(r)
			for _, key := range []api.Key{keyOf(0), keyOf(1), keyOf(9), k.Owner} {
				c.unwrap(t, "spared", own, key)
				c.members(t, "spared", own, key)
			}
			if got, want := ring.Put(own), append(slices.Concat(r.Wraps...), r.Dir...); !bytes.Equal(got, want) {
				t.Errorf("Put: %s, want %s", shown(got), shown(want))
			}
			checkSparedRing(t, "handed in", own, r)
		}
	}
}

// Rule 8: a wrap behind the list of the Wraps is not looked at, nor are bytes behind a wrap.
func TestNothingBehindIsRead(t *testing.T) {
	for _, mode := range modes() {
		c := paired(t, mode)
		r, k := c.made(t, 3, some(3))
		for i := range 3 {
			checkNotUnwrapped(t, "behind the Wraps", c.b, ring.Ring{Wraps: r.Wraps[:i:8]}, keyOf(i), api.ErrNone)
			short := cloned(r)
			short.Wraps[i] = short.Wraps[i][:100:101]
			checkNotUnwrapped(t, "behind a wrap", c.b, short, keyOf(i), api.ErrNone)
		}
		short := cloned(r)
		short.Dir = short.Dir[:300:301]
		checkNoMembers(t, "behind Dir", c.b, short, k.Owner, api.ErrSum)
	}
}

// Rule 4: what Put tells is new memory, and shares none with the ring, of one list alone too.
func TestPutTellsNewMemory(t *testing.T) {
	c := paired(t, box.Real)
	whole, _ := c.made(t, 3, some(3))
	for _, r := range []ring.Ring{whole, {Wraps: whole.Wraps[:1]}, {Dir: whole.Dir}, {Wraps: [][]byte{nil, whole.Wraps[0]}}} {
		own := sparedRing(r)
		first, second := ring.Put(own), ring.Put(own)
		like := bytes.Clone(first)
		sample.Overwrite(first, 0xEF)
		checkSparedRing(t, "Put", own, r)
		if !bytes.Equal(second, like) {
			t.Errorf("two answers share memory: %s", shown(second))
		}
		overwriteRing(own)
		if !bytes.Equal(second, like) || !bytes.Equal(ring.Put(r), like) {
			t.Errorf("it shares memory with the ring: %s", shown(second))
		}
		for _, b := range [][]byte{first, second} {
			if behind := b[len(b):cap(b)]; bytes.Contains(behind, []byte{0xEE}) || bytes.Contains(behind, like[:1]) && like[0] != 0 && like[0] != 0xEF {
				t.Errorf("behind it lies %x", behind)
			}
		}
	}
}

// Rules 4 and 8: bytes that are read are as they were, their spare room too, and are not kept; each ring is new memory.
func TestReadKeepsNothing(t *testing.T) {
	b := sample.Text(wholeBytes)
	own := sample.Spared(b)
	first, _ := ring.Read(own)
	second, _ := ring.Read(own)
	want := cloned(second)
	overwriteRing(first)
	if !sample.Untouched(own, b) {
		t.Errorf("what was read was written: %s", shown(own))
	}
	checkSame(t, "two answers", second, want)
	sample.Overwrite(own, 0xDD)
	checkSame(t, "what was read is written over", second, want)
	for _, n := range []int{0, 1, 1108, 1110} {
		own := sample.Spared(sample.Text(n))
		if _, e := ring.Read(own); e != api.ErrForm || !sample.Untouched(own, sample.Text(n)) {
			t.Errorf("%d bytes: error %d", n, int(e))
		}
	}
}

// Rule 4: the members that are told are new memory: who writes over them changes no other answer.
func TestMembersAreNewMemory(t *testing.T) {
	for _, mode := range modes() {
		c := paired(t, mode)
		r, k := c.made(t, 3, some(5))
		first, _ := ring.Members(c.b, r, k.Owner)
		second, _ := ring.Members(c.b, r, k.Owner)
		if behind := first[len(first):cap(first)]; slices.ContainsFunc(behind, func(m member) bool { return m != member{} }) {
			t.Errorf("mode %d: behind the members stand %v", mode, behind)
		}
		sample.Overwrite(first, member{Number: 99})
		if !slices.Equal(second, some(5)) {
			t.Errorf("mode %d: two answers share memory: %s", mode, shownMembers(second))
		}
		checkMembers(t, "asked again", c.b, r, k.Owner, some(5))
	}
}
