package ring_test

import (
	"bytes"
	"fmt"
	"slices"
	"testing"

	"coffret/api"
	"coffret/box"
	"coffret/draws"
	"coffret/ring"
	"coffret/sample"
)

// The chapter's example 1, and P16.5: all rings have one length, however many members, in both modes.
func TestExample(t *testing.T) {
	if ring.WrapBytes != wrapBytes || ring.DirBytes != dirBytes || wholeBytes != 1109 {
		t.Errorf("%d, %d", ring.WrapBytes, ring.DirBytes)
	}
	for _, mode := range modes() {
		for n := 1; n <= api.MaxMembers; n++ {
			c := paired(t, mode)
			r, k := c.made(t, 3, some(n))
			checkLengths(t, r)
			r, e := c.again(t, k, some(9-n))
			if e != api.OK {
				t.Errorf("error %d", int(e))
			}
			checkLengths(t, r)
		}
	}
}

func checkLengths(t *testing.T, r ring.Ring) {
	t.Helper()
	if len(r.Wraps) != 8 || len(r.Dir) != 301 || len(ring.Put(r)) != 1109 {
		t.Errorf("%d wraps, %d bytes, %d in all", len(r.Wraps), len(r.Dir), len(ring.Put(r)))
	}
	for i, wrap := range r.Wraps {
		if len(wrap) != 101 {
			t.Errorf("the wrap %d has %d bytes", i, len(wrap))
		}
	}
}

// P16.2, rule 1: a box that is nil, or a plain one, is ErrNil, whatever the members are.
func TestMakeOfNoBox(t *testing.T) {
	for what, b := range map[string]*box.Box{"nil": nil, "plain": {}, "new": new(box.Box)} {
		for _, l := range [][]member{some(1), some(8), nil, some(9), {{}}} {
			for range 2 {
				if r, k, e := ring.Make(b, 3, l); e != api.ErrNil || k != (ring.Keys{}) || len(r.Wraps) != 0 || len(r.Dir) != 0 {
					t.Errorf("%s, %s: Make: %s, %v, error %d", what, shownMembers(l), shownRing(r), k, int(e))
				}
				if r, e := ring.Again(b, ring.Keys{Epoch: 3, Key: keyOf(1), Owner: keyOf(2), Owns: true}, l); e != api.ErrNil || len(r.Wraps) != 0 || len(r.Dir) != 0 {
					t.Errorf("%s, %s: Again: %s, error %d", what, shownMembers(l), shownRing(r), int(e))
				}
			}
		}
	}
}

// P16.2: members that may not be are ErrArg, and nothing is drawn or sealed.
func TestMakeOfMembersThatMayNotBe(t *testing.T) {
	for _, mode := range modes() {
		c := paired(t, mode, sample.Text(500))
		_, k := c.made(t, 3, some(2))
		count, used := c.b.Count(), c.s.Used()
		for _, l := range [][]member{
			nil, {}, some(9), some(3)[1:3], {{}}, {{Number: 256, Owner: true}}, {{Number: 0, Owner: true}},
			{{Number: 1, Owner: true}, {Number: 2}},
			{{Number: 1, Owner: true}, {Number: 1, Key: keyOf(1)}},
		} {
			if r, k, e := c.make(t, 4, l); e != api.ErrArg || k != (ring.Keys{}) || len(r.Wraps) != 0 || len(r.Dir) != 0 {
				t.Errorf("mode %d, %s: Make: %s, %v, error %d", mode, shownMembers(l), shownRing(r), k, int(e))
			}
			if r, e := c.again(t, k, l); e != api.ErrArg || len(r.Wraps) != 0 || len(r.Dir) != 0 {
				t.Errorf("mode %d, %s: Again: %s, error %d", mode, shownMembers(l), shownRing(r), int(e))
			}
			if c.b.Count() != count || c.s.Used() != used {
				t.Errorf("mode %d, %s: %d texts were sealed, %d bytes drawn", mode, shownMembers(l), c.b.Count()-count, c.s.Used()-used)
			}
		}
	}
}

// P16.2: each number of members, by each epoch, in both modes, against the chapter taken word by word: all bytes of the ring, the keys, what was drawn and sealed.
func TestMakeIsAsTheChapterSays(t *testing.T) {
	for _, mode := range modes() {
		for _, drawn := range [][]byte{nil, sample.Text(64), sample.Text(777)} {
			c := paired(t, mode, drawn)
			for _, epoch := range epochs() {
				for n := 1; n <= api.MaxMembers; n++ {
					_, k := c.made(t, epoch, some(n))
					c.again(t, k, some(9-n))
				}
			}
		}
	}
}

// P16.2: the epoch's key is drawn first, then the owners', then, of a box of the mode Ideal, what is sealed, in its order; the keys of no member each ahead of what is sealed by it.
func TestMakeDrawsInItsOrder(t *testing.T) {
	for n := 1; n <= api.MaxMembers; n++ {
		drawn := byte(0)
		next := func(n int) []byte {
			drawn++
			return bytes.Repeat([]byte{drawn}, n)
		}
		script, want := [][]byte{next(32), next(32)}, ring.Ring{}
		var nobodys []api.Key
		for i := range 8 {
			if i >= n {
				key := next(32)
				nobodys = append(nobodys, api.Key(key))
				script = append(script, key)
			}
			want.Wraps = append(want.Wraps, next(101))
			script = append(script, want.Wraps[i])
		}
		want.Dir = next(301)
		script = append(script, want.Dir)

		what := fmt.Sprintf("%d members", n)
		s := draws.New(script...)
		b, _ := box.New(box.Ideal, s)
		got, k, e := ring.Make(b, 3, some(n))
		if e != api.OK || k != (ring.Keys{Epoch: 3, Key: api.Key(script[0]), Owner: api.Key(script[1]), Owns: true}) {
			t.Errorf("%s: %v, error %d", what, k, int(e))
		}
		checkSame(t, what, got, want)
		if s.Used() != 64+8*101+32*(8-n)+301 || b.Count() != 9 || len(nobodys) != 8-n {
			t.Errorf("%s: %d bytes were drawn, %d texts sealed", what, s.Used(), b.Count())
		}
		for i, key := range nobodys {
			checkSealed(t, what, b, key, "wrap", got.Wraps[n+i], sample.Ones(73))
			checkNotUnwrapped(t, what, b, got, key, api.ErrNone)
		}
	}
}

// checkSealed tells whether a text was sealed by a key, beside something.
func checkSealed(t *testing.T, what string, b *box.Box, key api.Key, beside string, sealed, text []byte) {
	t.Helper()
	if got, ok := b.Open(key, []byte(beside), sealed); !ok || !bytes.Equal(got, text) {
		t.Errorf("%s: %s by %x, beside %q, is %s, %v, want %s", what, shown(sealed), key, beside, shown(got), ok, shown(text))
	}
}

// P16.2: what is sealed, byte by byte: of an owner, of one that is none, and the members.
func TestMakeSealsTheseTexts(t *testing.T) {
	const epoch = 0x0102030405060708
	l := []member{{Number: 255, Key: api.Key{9}}, {Number: 16, Key: api.Key{31: 7}, Owner: true}}
	for _, mode := range modes() {
		b, _ := box.New(mode, draws.New([]byte("script")))
		r, k, e := ring.Make(b, epoch, l)
		if e != api.OK {
			t.Fatalf("error %d", int(e))
		}
		zeros := make([]byte, 32)
		none := slices.Concat([]byte{1, 2, 3, 4, 5, 6, 7, 8}, k.Key[:], []byte{0}, zeros)
		owner := slices.Concat([]byte{1, 2, 3, 4, 5, 6, 7, 8}, k.Key[:], []byte{1}, k.Owner[:])
		checkSealed(t, "none", b, api.Key{9}, "wrap", r.Wraps[0], none)
		checkSealed(t, "owner", b, api.Key{31: 7}, "wrap", r.Wraps[1], owner)
		dir := slices.Concat([]byte{2, 255, 0, 9}, zeros[:31], []byte{16, 1}, zeros[:31], []byte{7}, make([]byte, 273-1-2*34))
		checkSealed(t, "the members", b, k.Owner, "dir", r.Dir, dir)
		for _, beside := range []string{"", "wrap", "dir", "wrap\x00", "wra"} {
			for i, sealed := range append(slices.Clone(r.Wraps), r.Dir) {
				for j, key := range []api.Key{l[0].Key, l[1].Key, k.Key, k.Owner, {}} {
					_, got := b.Open(key, []byte(beside), sealed)
					if want := beside == "wrap" && i == j && i < 2 || beside == "dir" && i == 8 && j == 3; got != want {
						t.Errorf("mode %d: the text %d is opened by the key %d beside %q: %v", mode, i, j, beside, got)
					}
				}
			}
		}
	}
}

// P16.2: Again takes the keys as they are, whatever they say, and draws none but those of no member.
func TestAgainTakesTheKeysAsTheyAre(t *testing.T) {
	for _, mode := range modes() {
		for _, k := range []ring.Keys{
			{}, {Owns: true}, {Epoch: 1}, {Key: keyOf(1)}, {Owner: keyOf(2)},
			{Epoch: 1<<64 - 1, Key: keyOf(3), Owner: keyOf(4), Owns: true},
			{Epoch: 1 << 32, Key: keyOf(3), Owner: keyOf(4)},
			{Epoch: 7, Key: keyOf(3), Owner: keyOf(3), Owns: true},
			{Epoch: 7, Key: keyOf(0), Owner: keyOf(0), Owns: true}, // a member's
		} {
			for n := 1; n <= api.MaxMembers; n++ {
				c := paired(t, mode, sample.Text(40))
				r, e := c.again(t, k, some(n))
				if e != api.OK {
					t.Errorf("mode %d: Again of %v: error %d", mode, k, int(e))
				}
				for _, m := range some(n) {
					want := ring.Keys{Epoch: k.Epoch, Key: k.Key, Owns: m.Owner}
					if m.Owner {
						want.Owner = k.Owner
					}
					checkUnwrap(t, "Again", c.b, r, m.Key, want)
				}
				checkMembers(t, "Again", c.b, r, k.Owner, some(n))
				if used := map[int]int{box.Real: 9 * 12, box.Ideal: 8*101 + 301}[mode] + 32*(8-n); c.s.Used() != used || c.b.Count() != 9 {
					t.Errorf("mode %d, %d members: %d bytes were drawn, want %d; %d texts were sealed", mode, n, c.s.Used(), used, c.b.Count())
				}
			}
		}
	}
}

// P16.2: of the same keys and members each ring is another, and each one tells the same.
func TestAgainAndAgain(t *testing.T) {
	for _, mode := range modes() {
		c := paired(t, mode)
		first, k := c.made(t, 5, some(4))
		seen := map[string]bool{string(ring.Put(first)): true}
		for range 5 {
			r, _ := c.again(t, k, some(4))
			if seen[string(ring.Put(r))] {
				t.Errorf("mode %d: a ring came twice", mode)
			}
			seen[string(ring.Put(r))] = true
			checkUnwrap(t, "again", c.b, r, keyOf(0), k)
			checkMembers(t, "again", c.b, r, k.Owner, some(4))
		}
		checkUnwrap(t, "the first", c.b, first, keyOf(0), k)
	}
}

// P16.2: the order of the members is that of the wraps, and of the members' text.
func TestMakeKeepsTheOrder(t *testing.T) {
	rnd := chosen(3)
	for _, mode := range modes() {
		for range 20 {
			c := paired(t, mode)
			l := some(1 + rnd.IntN(8))
			rnd.Shuffle(len(l), func(i, j int) { l[i], l[j] = l[j], l[i] })
			r, k := c.made(t, 5, l)
			checkMembers(t, "in some order", c.b, r, k.Owner, l)
			for i, m := range l {
				alone := ring.Ring{Wraps: r.Wraps[i : i+1]}
				want := k
				if !m.Owner {
					want.Owner, want.Owns = api.Key{}, false
				}
				checkUnwrap(t, "the wrap of this place", c.b, alone, m.Key, want)
			}
		}
	}
}

// fullAt is a source's script by which a box of the mode Ideal, that sealed the texts that are handed out with it, has no room for the text of that number; again is how often what is drawn was sealed already.
func fullAt(n, at, again int, keys bool) (script []byte, sealedAlready []int) {
	wrap, dir := bytes.Repeat([]byte{200}, 101), bytes.Repeat([]byte{201}, 301)
	script = slices.Concat(wrap, dir)
	if keys {
		script = append(script, sample.Text(64)...)
	}
	for i := range 9 {
		old, size := wrap, 101
		if i == 8 {
			old, size = dir, 301
		}
		if i >= n && i < 8 {
			script = append(script, bytes.Repeat([]byte{byte(100 + i)}, 32)...)
		}
		if i == at {
			script = append(script, bytes.Repeat(old, again)...)
		}
		script = append(script, bytes.Repeat([]byte{byte(1 + i)}, size)...)
	}
	return script, []int{73, 273}
}

// P16.2, of box.Seal's error: at each of the nine texts, in Make and in Again, where what is drawn was sealed already MaxTries times: ErrFull, and nothing beside it; one time fewer is no error.
func TestMakeTellsTheBoxsError(t *testing.T) {
	for n := 1; n <= api.MaxMembers; n++ {
		for at := range 9 {
			for _, again := range []int{0, 1, 7, 8} {
				for _, make := range []bool{true, false} {
					checkFull(t, n, at, again, make)
				}
			}
		}
	}
}

func checkFull(t *testing.T, n, at, again int, make bool) {
	t.Helper()
	what := fmt.Sprintf("%d members, the text %d drawn %d times again, Make: %v", n, at, again, make)
	script, already := fullAt(n, at, again, make)
	c := paired(t, box.Ideal, script)
	for _, size := range already {
		c.seal(t, api.Key{1}, "", sample.Text(size))
	}
	var r ring.Ring
	var e api.Errno
	k := ring.Keys{Epoch: 3, Key: keyOf(50), Owner: keyOf(51), Owns: true}
	if make {
		r, k, e = c.make(t, 3, some(n))
	} else {
		r, e = c.again(t, k, some(n))
	}
	if again < 8 {
		if e != api.OK || c.b.Count() != 2+9 || c.s.Used() != len(script) {
			t.Errorf("%s: error %d, %d texts sealed, %d bytes drawn of %d", what, int(e), c.b.Count(), c.s.Used(), len(script))
		}
		checkUnwrap(t, what, c.b, r, keyOf(0), k)
		return
	}
	if e != api.ErrFull || len(r.Wraps) != 0 || len(r.Dir) != 0 || make && k != (ring.Keys{}) {
		t.Errorf("%s: %s, %v, error %d", what, shownRing(r), k, int(e))
	}
	if c.b.Count() != 2+at {
		t.Errorf("%s: %d texts were sealed", what, c.b.Count())
	}
	if _, _, e := c.make(t, 3, some(n)); e != api.OK {
		t.Errorf("%s: behind it: error %d", what, int(e))
	}
}
