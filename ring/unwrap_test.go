package ring_test

import (
	"bytes"
	"fmt"
	"slices"
	"testing"

	"coffret/api"
	"coffret/box"
	"coffret/draws"
	"coffret/ring"
	"coffret/sample"
)

// P16.3, P16.5: each member unwraps the keys, the owners' key just an owner; nobody else unwraps any.
func TestEachMemberUnwraps(t *testing.T) {
	for _, mode := range modes() {
		for _, epoch := range epochs() {
			for n := 1; n <= api.MaxMembers; n++ {
				c := paired(t, mode)
				r, k := c.made(t, epoch, some(n))
				for i, m := range some(n) {
					want := ring.Keys{Epoch: epoch, Key: k.Key}
					if i%3 == 0 {
						want.Owns, want.Owner = true, k.Owner
					}
					checkUnwrap(t, "a member", c.b, r, m.Key, want)
				}
				for _, key := range []api.Key{{}, keyOf(n), keyOf(99), k.Key, k.Owner, api.Key(sample.Ones(32))} {
					checkNotUnwrapped(t, "nobody", c.b, r, key, api.ErrNone)
				}
				for bit := range 256 {
					key := keyOf(0)
					key[bit/8] ^= 1 << (bit % 8)
					if slices.ContainsFunc(some(n), func(m member) bool { return m.Key == key }) {
						continue
					}
					checkNotUnwrapped(t, "nearly a member", c.b, r, key, api.ErrNone)
				}
			}
		}
	}
}

// P16.3, rule 1: a box that is nil, or a plain one, is ErrNil, whatever the ring is.
func TestUnwrapByNoBox(t *testing.T) {
	b, _ := box.New(box.Real, draws.New())
	r, k, _ := ring.Make(b, 3, some(2))
	for what, none := range map[string]*box.Box{"nil": nil, "plain": {}, "new": new(box.Box)} {
		for _, x := range []ring.Ring{r, {}, {Wraps: [][]byte{nil}}} {
			for range 2 {
				checkNotUnwrapped(t, what, none, x, keyOf(0), api.ErrNil)
				checkNoMembers(t, what, none, x, k.Owner, api.ErrNil)
			}
		}
	}
}

// Rule 1: a plain Ring{} is a value as any other: it has no Wraps, and a Dir that no key opens.
func TestPlainRing(t *testing.T) {
	for _, mode := range modes() {
		c := paired(t, mode)
		c.made(t, 3, some(2))
		for _, r := range []ring.Ring{{}, {Wraps: [][]byte{}, Dir: []byte{}}, {Wraps: make([][]byte, 8)}} {
			for _, key := range []api.Key{{}, keyOf(0)} {
				checkNotUnwrapped(t, "plain", c.b, r, key, api.ErrNone)
				checkNoMembers(t, "plain", c.b, r, key, api.ErrSum)
			}
			c.same(t, "plain")
		}
	}
}

// P16.3: to unwrap, and to tell the members, nothing is drawn or sealed.
func TestUnwrapDrawsNothing(t *testing.T) {
	for _, mode := range modes() {
		c := paired(t, mode)
		r, k := c.made(t, 3, some(3))
		for range 3 {
			for _, key := range []api.Key{keyOf(0), keyOf(1), keyOf(9), k.Key, k.Owner} {
				c.unwrap(t, "nothing is drawn", r, key)
				c.members(t, "nothing is drawn", r, key)
			}
		}
	}
}

// P16.3: of a wrap that was changed in a bit, cut off, made longer, or left out, who has its key learns nothing; the others learn what they did.
func TestUnwrapOfAChangedWrap(t *testing.T) {
	for _, mode := range modes() {
		c := paired(t, mode)
		whole, k := c.made(t, 3, some(3))
		for at := range 3 {
			wrap := whole.Wraps[at]
			others := [][]byte{nil, {}, wrap[:1], wrap[:27], wrap[:28], wrap[:100], wrap[1:], sample.With(wrap, 101, 0), sample.With(wrap, 0, 0), sample.Ones(101), make([]byte, 101), append(slices.Clone(wrap), wrap...)}
			for bit := range 8 * 101 {
				others = append(others, sample.Turned(wrap, bit))
			}
			for i, other := range others {
				what := fmt.Sprintf("the wrap %d, changed as the number %d", at, i)
				r := cloned(whole)
				r.Wraps[at] = other
				checkNotUnwrapped(t, what, c.b, r, keyOf(at), api.ErrNone)
				next := (at + 1) % 3
				want, _ := c.p.unwrap(whole, keyOf(next))
				checkUnwrap(t, what, c.b, r, keyOf(next), want)
			}
			r := cloned(whole)
			r.Wraps = slices.Delete(r.Wraps, at, at+1)
			checkNotUnwrapped(t, "left out", c.b, r, keyOf(at), api.ErrNone)
		}
		checkUnwrap(t, "as it was", c.b, whole, keyOf(0), k)
	}
}

// P16.3: where a wrap stands is one; in the place of Dir it is none, and Dir is none in the place of a wrap.
func TestUnwrapOfWrapsElsewhere(t *testing.T) {
	rnd := chosen(4)
	for _, mode := range modes() {
		c := paired(t, mode)
		whole, k := c.made(t, 3, some(8))
		for range 50 {
			r := cloned(whole)
			rnd.Shuffle(8, func(i, j int) { r.Wraps[i], r.Wraps[j] = r.Wraps[j], r.Wraps[i] })
			for i := range 8 {
				want, _ := c.p.unwrap(whole, keyOf(i))
				checkUnwrap(t, "elsewhere", c.b, r, keyOf(i), want)
			}
		}
		for i := range 8 {
			r := cloned(whole)
			r.Wraps[i], r.Dir = r.Dir, r.Wraps[i]
			checkNotUnwrapped(t, "as Dir", c.b, r, keyOf(i), api.ErrNone)
			checkNotUnwrapped(t, "Dir as a wrap", c.b, r, k.Owner, api.ErrNone)
			checkNoMembers(t, "a wrap as Dir", c.b, r, keyOf(i), api.ErrSum)
			checkNoMembers(t, "a wrap as Dir", c.b, r, k.Owner, api.ErrSum)
		}
	}
}

// P16.3: a Ring may have fewer Wraps, or more: all of them are looked through.
func TestUnwrapOfMoreAndFewerWraps(t *testing.T) {
	for _, mode := range modes() {
		c := paired(t, mode)
		whole, k := c.made(t, 3, some(8))
		for n := range 8 {
			r := cloned(whole)
			r.Wraps = r.Wraps[:n]
			for i := range 8 {
				if want, e := c.p.unwrap(whole, keyOf(i)); i < n && e == api.OK {
					checkUnwrap(t, "fewer", c.b, r, keyOf(i), want)
				} else {
					checkNotUnwrapped(t, "fewer", c.b, r, keyOf(i), api.ErrNone)
				}
			}
			checkMembers(t, "fewer", c.b, r, k.Owner, some(8))
		}
		for _, n := range []int{1, 2, 8, 9, 300} {
			r := cloned(whole)
			r.Wraps = append(make([][]byte, n), r.Wraps...)
			for i := range 8 {
				want, _ := c.p.unwrap(whole, keyOf(i))
				checkUnwrap(t, "more", c.b, r, keyOf(i), want)
			}
			checkMembers(t, "more", c.b, r, k.Owner, some(8))
		}
	}
}

// wrongWraps are texts that are no wrapped keys'.
func wrongWraps() map[string][]byte {
	k := ring.Keys{Epoch: 0x0102030405060708, Key: keyOf(60), Owner: keyOf(61)}
	none, owner := plainWrap(k, false), plainWrap(k, true)
	l := map[string][]byte{
		"no bytes":         nil,
		"one byte":         {1},
		"nobody's":         sample.Ones(73),
		"one byte less":    none[:72],
		"one byte more":    sample.With(none, 73, 0),
		"owner, less":      owner[:72],
		"owner, more":      sample.With(owner, 73, 0),
		"without a key":    none[:41],
		"members":          plainDir(some(2)),
		"very long":        make([]byte, api.MaxSized),
		"owner, very long": append(bytes.Clone(owner), make([]byte, api.MaxSized-73)...),
	}
	for x := 2; x < 256; x++ {
		for _, text := range [][]byte{none, owner} {
			other := bytes.Clone(text)
			other[40] = byte(x)
			l[fmt.Sprintf("%d as the 1 or 0, then %d", x, text[41])] = other
		}
	}
	for i := 41; i < 73; i++ {
		for _, x := range []byte{1, 128, 255} {
			other := bytes.Clone(none)
			other[i] = x
			l[fmt.Sprintf("none, but %d at %d", x, i)] = other
		}
	}
	other := bytes.Clone(owner)
	other[40] = 0
	l["none, but an owners' key"] = other
	return l
}

// P16.3: a wrap that the key opens, but to no wrapped key's text, is none: alone it comes to ErrNone, and behind it the next one is told.
func TestUnwrapOfOtherTexts(t *testing.T) {
	for _, mode := range modes() {
		c := paired(t, mode)
		whole, k := c.made(t, 3, some(2))
		for what, text := range wrongWraps() {
			wrap := c.seal(t, keyOf(0), "wrap", text)
			r := cloned(whole)
			r.Wraps[0] = wrap
			checkNotUnwrapped(t, what, c.b, r, keyOf(0), api.ErrNone)
			r.Wraps = slices.Insert(r.Wraps, 1, whole.Wraps[0])
			checkUnwrap(t, what, c.b, r, keyOf(0), k)
			c.unwrap(t, what, r, keyOf(0))
		}
	}
}

// P16.3: texts of wrapped keys that say little, or what is nobody's: they are what they are.
func TestUnwrapOfTextsThatSayLittle(t *testing.T) {
	for _, mode := range modes() {
		for what, k := range map[string]ring.Keys{
			"zeros":                      {},
			"an epoch alone":             {Epoch: 1<<64 - 1},
			"a key alone":                {Key: keyOf(3)},
			"an owner of zeros":          {Owns: true},
			"an owner without its key":   {Epoch: 1, Key: keyOf(3), Owns: true},
			"an owner, the key of zeros": {Epoch: 1, Owner: keyOf(4), Owns: true},
			"ones":                       {Epoch: 1<<64 - 1, Key: api.Key(sample.Ones(32)), Owner: api.Key(sample.Ones(32)), Owns: true},
		} {
			c := paired(t, mode)
			r := ring.Ring{Wraps: [][]byte{c.seal(t, keyOf(5), "wrap", plainWrap(k, k.Owns))}}
			checkUnwrap(t, what, c.b, r, keyOf(5), k)
		}
	}
}

// P16.3: of two wraps that the key opens it is the first one, whichever was sealed first.
func TestUnwrapTellsTheFirst(t *testing.T) {
	for _, mode := range modes() {
		c := paired(t, mode)
		var wraps [][]byte
		var keys []ring.Keys
		for i := range 4 {
			k := ring.Keys{Epoch: uint64(i), Key: keyOf(10 + i), Owns: i%2 == 0}
			keys = append(keys, k)
			wraps = append(wraps, c.seal(t, keyOf(0), "wrap", plainWrap(k, k.Owns)))
		}
		for i := range 4 {
			for j := range 4 {
				r := ring.Ring{Wraps: [][]byte{nil, wraps[i], wraps[j]}}
				checkUnwrap(t, fmt.Sprintf("%d ahead of %d", i, j), c.b, r, keyOf(0), keys[i])
			}
		}
	}
}

// P16.3: a wrapped key's text is told just where it was sealed beside "wrap".
func TestUnwrapOfOtherBesides(t *testing.T) {
	for _, mode := range modes() {
		for _, beside := range []string{"", "dir", "wrap ", "wra", "Wrap", "wrap\x00"} {
			c := paired(t, mode)
			r := ring.Ring{Wraps: [][]byte{c.seal(t, keyOf(0), beside, plainWrap(ring.Keys{Epoch: 1}, true))}, Dir: c.seal(t, keyOf(0), "wrap", plainDir(some(2)))}
			checkNotUnwrapped(t, beside, c.b, r, keyOf(0), api.ErrNone)
			checkNoMembers(t, beside, c.b, r, keyOf(0), api.ErrSum)
		}
	}
}

// P16.5: in the mode Ideal a ring is opened at the box alone that it was made at; in the mode Real at any of that mode.
func TestUnwrapAtAnotherBox(t *testing.T) {
	for _, mode := range modes() {
		c, other := paired(t, mode, []byte("a")), paired(t, mode, []byte("b"))
		r, k := c.made(t, 3, some(2))
		other.made(t, 3, some(2))
		if mode == box.Real {
			checkUnwrap(t, "another box", other.b, r, keyOf(0), k)
			checkMembers(t, "another box", other.b, r, k.Owner, some(2))
		} else {
			checkNotUnwrapped(t, "another box", other.b, r, keyOf(0), api.ErrNone)
			checkNoMembers(t, "another box", other.b, r, k.Owner, api.ErrSum)
		}
	}
}

// P16.5: in the mode Ideal nobody else unwraps any, by whatever key: neither a member of another ring, nor one that was left out of this one.
func TestNobodyElseUnwraps(t *testing.T) {
	for _, mode := range modes() {
		c := paired(t, mode)
		first, k := c.made(t, 1, some(5))
		second, newer := c.made(t, 2, some(3))
		third, _ := c.again(t, newer, some(5)[:4])
		for i := range 9 {
			for at, r := range []ring.Ring{first, second, third} {
				if _, e := c.unwrap(t, "one of some rings", r, keyOf(i)); (e == api.OK) != (i < []int{5, 3, 4}[at]) {
					t.Errorf("mode %d: the ring %d by the key %d: error %d", mode, at, i, int(e))
				}
			}
		}
		checkNoMembers(t, "the owners' key of before", c.b, second, k.Owner, api.ErrSum)
		checkNoMembers(t, "the owners' key of later", c.b, first, newer.Owner, api.ErrSum)
	}
}
