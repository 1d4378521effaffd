package ring_test

import (
	"bytes"
	"fmt"
	"testing"

	"coffret/api"
	"coffret/ring"
	"coffret/sample"
)

// P16.3, P16.5: an owner tells its members, as they were handed in, however many.
func TestAnOwnerTellsTheMembers(t *testing.T) {
	for _, mode := range modes() {
		for n := 1; n <= api.MaxMembers; n++ {
			c := paired(t, mode)
			r, _ := c.made(t, 3, some(n))
			for _, m := range some(n) {
				if !m.Owner {
					continue
				}
				k, _ := ring.Unwrap(c.b, r, m.Key)
				checkMembers(t, "an owner", c.b, r, k.Owner, some(n))
			}
		}
		c := paired(t, mode)
		l := []member{{Number: 255}, {Number: 1, Key: api.Key(sample.Ones(32)), Owner: true}, {Number: 128, Key: api.Key{31: 1}}}
		r, k := c.made(t, 3, l)
		checkMembers(t, "Numbers and Keys of the outermost", c.b, r, k.Owner, l)
	}
}

// P16.3: by another key they are not told: ErrSum.
func TestMembersByOtherKeys(t *testing.T) {
	for _, mode := range modes() {
		for n := 1; n <= api.MaxMembers; n++ {
			c := paired(t, mode)
			r, k := c.made(t, 3, some(n))
			keys := []api.Key{{}, k.Key, keyOf(99), api.Key(sample.Ones(32))}
			for _, m := range some(n) {
				keys = append(keys, m.Key)
			}
			for bit := range 256 {
				keys = append(keys, api.Key(sample.Turned(k.Owner[:], bit)))
			}
			for _, key := range keys {
				checkNoMembers(t, "another key", c.b, r, key, api.ErrSum)
			}
		}
	}
}

// P16.3: of a Dir that was changed in a bit, cut off, made longer, or is another ring's: ErrSum; what the Wraps are does not matter.
func TestMembersOfAChangedDir(t *testing.T) {
	for _, mode := range modes() {
		c := paired(t, mode)
		whole, k := c.made(t, 3, some(3))
		second, _ := c.made(t, 3, some(3))
		dir := whole.Dir
		others := [][]byte{nil, {}, dir[:1], dir[:27], dir[:28], dir[:300], dir[1:], sample.With(dir, 301, 0), sample.With(dir, 0, 0), second.Dir, make([]byte, 301)}
		for bit := range 8 * 301 {
			others = append(others, sample.Turned(dir, bit))
		}
		for i, other := range others {
			r := cloned(whole)
			r.Dir = other
			checkNoMembers(t, fmt.Sprintf("changed as the number %d", i), c.b, r, k.Owner, api.ErrSum)
			checkUnwrap(t, "another Dir", c.b, r, keyOf(0), k)
		}
		for _, wraps := range [][][]byte{nil, {nil}, second.Wraps, make([][]byte, 20)} {
			checkMembers(t, "other Wraps", c.b, ring.Ring{Wraps: wraps, Dir: dir}, k.Owner, some(3))
		}
	}
}

// wrongDirs are texts that are no members', or of such that may not be.
func wrongDirs() map[string][]byte {
	three := plainDir(some(3))
	l := map[string][]byte{
		"no bytes":           nil,
		"how many, alone":    {3},
		"one byte less":      three[:272],
		"one byte more":      sample.With(three, 273, 0),
		"of just the three":  three[:1+3*34],
		"eight, less":        plainDir(some(8))[:272],
		"eight, more":        sample.With(plainDir(some(8)), 273, 0),
		"very long":          append(bytes.Clone(three), make([]byte, api.MaxSized-273)...),
		"ones":               sample.Ones(273),
		"zeros":              make([]byte, 273),
		"a wrapped key":      plainWrap(ring.Keys{Epoch: 1}, true),
		"none that is owner": plainDir([]member{{Number: 1}, {Number: 2, Key: keyOf(1)}}),
		"two of one Number":  plainDir([]member{{Number: 1, Owner: true}, {Number: 1, Key: keyOf(1)}}),
		"two of one Key":     plainDir([]member{{Number: 1, Owner: true}, {Number: 2}}),
		"a Number of 0":      plainDir([]member{{Number: 0, Owner: true}}),
		"the last of 0":      plainDir([]member{{Number: 1, Owner: true}, {Number: 0, Key: keyOf(1)}}),
	}
	nine := sample.With(plainDir(some(8)), 273, 0)
	nine[0] = 9
	for i, x := range append([]byte{250, 0}, bytes.Repeat([]byte{77}, 32)...) {
		nine = append(nine[:273+i], x)
	}
	l["nine"] = nine
	for n := range 256 {
		if n == 3 {
			continue
		}
		other := bytes.Clone(three)
		other[0] = byte(n)
		l[fmt.Sprintf("three told as %d", n)] = other
	}
	for i := range 3 {
		for x := 2; x < 256; x++ {
			other := bytes.Clone(three)
			other[2+34*i] = byte(x)
			l[fmt.Sprintf("%d as the 1 or 0 of the number %d", x, i)] = other
		}
	}
	for at := 1 + 3*34; at < 273; at++ {
		for _, x := range []byte{1, 128, 255} {
			other := bytes.Clone(three)
			other[at] = x
			l[fmt.Sprintf("%d behind the last, at %d", x, at)] = other
		}
	}
	return l
}

// P16.3: a Dir that is opened, but is no members' text, or of such that may not be: ErrForm.
func TestMembersOfOtherTexts(t *testing.T) {
	for _, mode := range modes() {
		c := paired(t, mode)
		whole, k := c.made(t, 3, some(2))
		for what, text := range wrongDirs() {
			r := cloned(whole)
			r.Dir = c.seal(t, k.Owner, "dir", text)
			checkNoMembers(t, what, c.b, r, k.Owner, api.ErrForm)
			c.members(t, what, r, k.Owner)
			checkNoMembers(t, what+", by another key", c.b, r, k.Key, api.ErrSum)
		}
	}
}

// P16.3: a text that says members that may be is told, whoever laid it.
func TestMembersOfTextsThatAreLaid(t *testing.T) {
	for _, mode := range modes() {
		for n := 1; n <= api.MaxMembers; n++ {
			c := paired(t, mode)
			r := ring.Ring{Dir: c.seal(t, keyOf(1), "dir", plainDir(some(n)))}
			checkMembers(t, "laid", c.b, r, keyOf(1), some(n))
		}
	}
}

// P16.3: texts of members by chance, against the chapter taken word by word.
func TestMembersByChance(t *testing.T) {
	rnd := chosen(5)
	right := 0
	for _, mode := range modes() {
		c := paired(t, mode)
		for range 1500 {
			l := byChance(rnd)
			text := plainDir(l[:min(len(l), 8)])
			if rnd.IntN(3) == 0 {
				text[rnd.IntN(273)] ^= 1 << rnd.IntN(8)
			}
			r := ring.Ring{Dir: c.seal(t, keyOf(1), "dir", text)}
			if _, e := c.members(t, "by chance", r, keyOf(1)); e == api.OK {
				right++
			}
		}
	}
	if right < 300 || right > 2700 {
		t.Errorf("%d of 3000 were told: the texts show little", right)
	}
}
