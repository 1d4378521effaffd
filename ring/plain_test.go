package ring_test

import (
	"bytes"
	"fmt"
	"math"
	"math/rand/v2"
	"slices"
	"testing"

	"coffret/aead"
	"coffret/api"
	"coffret/box"
	"coffret/chacha"
	"coffret/draws"
	"coffret/ring"
	"coffret/sample"
)

type member = ring.Member

// What the chapter's numbers come to.
const (
	most       = 8
	wrapBytes  = 73 + 28
	dirBytes   = 273 + 28
	wholeBytes = most*wrapBytes + dirBytes
)

func chosen(seed uint64) *rand.Rand {
	return rand.New(rand.NewPCG(seed, 16))
}

func modes() []int {
	return []int{box.Real, box.Ideal}
}

func epochs() []uint64 {
	return []uint64{0, 1, 255, 256, 0x0102030405060708, 1 << 63, math.MaxUint64}
}

// keyOf is a key of its own for each number.
func keyOf(n int) api.Key {
	k := api.Key(sample.Text(32))
	k[0], k[31] = byte(n), byte(n>>8)
	return k
}

// some are n members that may be, of which one in three is an owner, the first among them.
func some(n int) []member {
	var l []member
	for i := range n {
		l = append(l, member{Number: 7*i + 1, Key: keyOf(i), Owner: i%3 == 0})
	}
	return l
}

// alikeBut is a copy of members, of which one is another.
func alikeBut(l []member, at int, m member) []member {
	l = slices.Clone(l)
	l[at] = m
	return l
}

// plain is the chapter, taken word by word: what was sealed stands in a list, and texts are told byte by byte.
type plain struct {
	mode   int
	source *draws.Source
	list   []plainSealed
}

type plainSealed struct {
	sealed, text []byte
	key          api.Key
	beside       string
}

func (p *plain) known(sealed []byte) bool {
	return slices.ContainsFunc(p.list, func(x plainSealed) bool { return bytes.Equal(x.sealed, sealed) })
}

// drawn are as many bytes as a text is sealed to, in two goes, as none may be as long as the longest.
func (p *plain) drawn(n int) []byte {
	return append(p.source.Take(n), p.source.Take(28)...)
}

func (p *plain) seal(k api.Key, beside string, text []byte) ([]byte, api.Errno) {
	var out []byte
	if p.mode == box.Real {
		nonce := p.source.Take(12)
		out = append(nonce, aead.Seal(k, chacha.Nonce(nonce), []byte(beside), text)...)
	} else {
		out = p.drawn(len(text))
		for tries := 1; p.known(out); tries++ {
			if tries == 8 {
				return nil, api.ErrFull
			}
			out = p.drawn(len(text))
		}
	}
	p.list = append(p.list, plainSealed{bytes.Clone(out), bytes.Clone(text), k, beside})
	return out, api.OK
}

func (p *plain) open(k api.Key, beside string, sealed []byte) ([]byte, bool) {
	if p.mode == box.Real {
		if len(sealed) < 28 {
			return nil, false
		}
		return aead.Open(k, chacha.Nonce(sealed[:12]), []byte(beside), sealed[12:])
	}
	for _, x := range p.list {
		if bytes.Equal(x.sealed, sealed) && x.key == k && x.beside == beside {
			return x.text, true
		}
	}
	return nil, false
}

// plainCheck is P16.1.
func plainCheck(l []member) api.Errno {
	owners, numbers, keys := 0, map[int]int{}, map[api.Key]int{}
	for _, m := range l {
		if m.Number <= 0 || m.Number >= 256 {
			return api.ErrArg
		}
		if m.Owner {
			owners++
		}
		numbers[m.Number]++
		keys[m.Key]++
	}
	if len(l) == 0 || len(l) > 8 || len(numbers) != len(l) || len(keys) != len(l) || owners == 0 {
		return api.ErrArg
	}
	return api.OK
}

// plainWrap is a wrapped key's text.
func plainWrap(k ring.Keys, owner bool) []byte {
	text := make([]byte, 73)
	for i := range 8 {
		text[i] = byte(k.Epoch >> (56 - 8*i))
	}
	copy(text[8:40], k.Key[:])
	if owner {
		text[40] = 1
		copy(text[41:73], k.Owner[:])
	}
	return text
}

// plainDir is the members' text, of whatever members, as far as they have room.
func plainDir(l []member) []byte {
	text := make([]byte, 273)
	text[0] = byte(len(l))
	for i, m := range l {
		at := 1 + 34*i
		text[at] = byte(m.Number)
		if m.Owner {
			text[at+1] = 1
		}
		copy(text[at+2:at+34], m.Key[:])
	}
	return text
}

func (p *plain) make(epoch uint64, l []member) (ring.Ring, ring.Keys, api.Errno) {
	if plainCheck(l) != api.OK {
		return ring.Ring{}, ring.Keys{}, api.ErrArg
	}
	first := p.source.Key()
	second := p.source.Key()
	k := ring.Keys{Epoch: epoch, Key: first, Owner: second, Owns: true}
	r, e := p.again(k, l)
	if e != api.OK {
		k = ring.Keys{}
	}
	return r, k, e
}

func (p *plain) again(k ring.Keys, l []member) (ring.Ring, api.Errno) {
	if plainCheck(l) != api.OK {
		return ring.Ring{}, api.ErrArg
	}
	var r ring.Ring
	for i := range 8 {
		key, text := api.Key{}, bytes.Repeat([]byte{255}, 73)
		if i < len(l) {
			key, text = l[i].Key, plainWrap(k, l[i].Owner)
		} else {
			key = p.source.Key()
		}
		wrap, e := p.seal(key, "wrap", text)
		if e != api.OK {
			return ring.Ring{}, e
		}
		r.Wraps = append(r.Wraps, wrap)
	}
	dir, e := p.seal(k.Owner, "dir", plainDir(l))
	if e != api.OK {
		return ring.Ring{}, e
	}
	r.Dir = dir
	return r, api.OK
}

// plainKeys is what a wrapped key's text says.
func plainKeys(text []byte) (ring.Keys, bool) {
	if len(text) != 73 {
		return ring.Keys{}, false
	}
	k := ring.Keys{Key: api.Key(text[8:40])}
	for _, x := range text[:8] {
		k.Epoch = 256*k.Epoch + uint64(x)
	}
	switch text[40] {
	case 1:
		k.Owns, k.Owner = true, api.Key(text[41:])
		return k, true
	case 0:
		return k, bytes.Count(text[41:], []byte{0}) == 32
	}
	return k, false
}

func (p *plain) unwrap(r ring.Ring, key api.Key) (ring.Keys, api.Errno) {
	for _, wrap := range r.Wraps {
		if text, ok := p.open(key, "wrap", wrap); ok {
			if k, ok := plainKeys(text); ok {
				return k, api.OK
			}
		}
	}
	return ring.Keys{}, api.ErrNone
}

func (p *plain) members(r ring.Ring, owner api.Key) ([]member, api.Errno) {
	text, ok := p.open(owner, "dir", r.Dir)
	if !ok {
		return nil, api.ErrSum
	}
	if len(text) != 273 || text[0] > 8 {
		return nil, api.ErrForm
	}
	var l []member
	for i := range int(text[0]) {
		one := text[1+34*i : 35+34*i]
		if one[1] > 1 {
			return nil, api.ErrForm
		}
		l = append(l, member{Number: int(one[0]), Owner: one[1] == 1, Key: api.Key(one[2:])})
	}
	behind := text[1+34*len(l):]
	if plainCheck(l) != api.OK || bytes.Count(behind, []byte{0}) != len(behind) {
		return nil, api.ErrForm
	}
	return l, api.OK
}

// pair is a box, and what the chapter says beside it, which draws from a source that goes on alike.
type pair struct {
	b *box.Box
	s *draws.Source
	p *plain
}

func paired(t *testing.T, mode int, l ...[]byte) pair {
	t.Helper()
	s := draws.New(l...)
	b, e := box.New(mode, s)
	if e != api.OK {
		t.Fatalf("box.New(%d): error %d", mode, int(e))
	}
	return pair{b, s, &plain{mode: mode, source: s.Clone()}}
}

// same tells whether as much was drawn, and sealed, as the chapter says.
func (c pair) same(t *testing.T, what string) {
	t.Helper()
	if c.s.Used() != c.p.source.Used() || c.b.Count() != len(c.p.list) {
		t.Errorf("%s: %d bytes were drawn, want %d; %d texts were sealed, want %d", what, c.s.Used(), c.p.source.Used(), c.b.Count(), len(c.p.list))
	}
}

// seal lets both seal a text.
func (c pair) seal(t *testing.T, k api.Key, beside string, text []byte) []byte {
	t.Helper()
	want, _ := c.p.seal(k, beside, text)
	got, e := c.b.Seal(k, []byte(beside), text)
	if e != api.OK || !bytes.Equal(got, want) {
		t.Fatalf("%s is sealed to %x, error %d, want %x", shown(text), sample.Some(got), int(e), sample.Some(want))
	}
	return got
}

func (c pair) make(t *testing.T, epoch uint64, l []member) (ring.Ring, ring.Keys, api.Errno) {
	t.Helper()
	what := fmt.Sprintf("mode %d: Make of the epoch %d and %s", c.p.mode, epoch, shownMembers(l))
	want, wantKeys, wantError := c.p.make(epoch, l)
	got, k, e := ring.Make(c.b, epoch, l)
	if e != wantError || k != wantKeys {
		t.Errorf("%s: %v, error %d, want %v, error %d", what, k, int(e), wantKeys, int(wantError))
	}
	checkSame(t, what, got, want)
	c.same(t, what)
	return got, k, e
}

func (c pair) again(t *testing.T, k ring.Keys, l []member) (ring.Ring, api.Errno) {
	t.Helper()
	what := fmt.Sprintf("mode %d: Again of %v and %s", c.p.mode, k, shownMembers(l))
	want, wantError := c.p.again(k, l)
	got, e := ring.Again(c.b, k, l)
	if e != wantError {
		t.Errorf("%s: error %d, want %d", what, int(e), int(wantError))
	}
	checkSame(t, what, got, want)
	c.same(t, what)
	return got, e
}

func (c pair) unwrap(t *testing.T, what string, r ring.Ring, key api.Key) (ring.Keys, api.Errno) {
	t.Helper()
	want, wantError := c.p.unwrap(r, key)
	got, e := ring.Unwrap(c.b, r, key)
	if got != want || e != wantError {
		t.Errorf("mode %d: %s: Unwrap by %x: %v, error %d, want %v, error %d", c.p.mode, what, key, got, int(e), want, int(wantError))
	}
	c.same(t, what)
	return got, e
}

func (c pair) members(t *testing.T, what string, r ring.Ring, owner api.Key) ([]member, api.Errno) {
	t.Helper()
	want, wantError := c.p.members(r, owner)
	got, e := ring.Members(c.b, r, owner)
	if !slices.Equal(got, want) || e != wantError {
		t.Errorf("mode %d: %s: Members by %x: %s, error %d, want %s, error %d", c.p.mode, what, owner, shownMembers(got), int(e), shownMembers(want), int(wantError))
	}
	c.same(t, what)
	return got, e
}

// made is a ring that both must make, and its keys.
func (c pair) made(t *testing.T, epoch uint64, l []member) (ring.Ring, ring.Keys) {
	t.Helper()
	r, k, e := c.make(t, epoch, l)
	if e != api.OK || len(r.Wraps) != most {
		t.Fatalf("Make of %s: %d wraps, error %d", shownMembers(l), len(r.Wraps), int(e))
	}
	return r, k
}

// checkSame tells whether a ring is another one.
func checkSame(t *testing.T, what string, got, want ring.Ring) {
	t.Helper()
	if !slices.EqualFunc(got.Wraps, want.Wraps, bytes.Equal) || !bytes.Equal(got.Dir, want.Dir) {
		t.Errorf("%s: the ring is %s, want %s", what, shownRing(got), shownRing(want))
	}
}

// cloned is a ring in memory of its own.
func cloned(r ring.Ring) ring.Ring {
	out := ring.Ring{Dir: bytes.Clone(r.Dir)}
	for _, wrap := range r.Wraps {
		out.Wraps = append(out.Wraps, bytes.Clone(wrap))
	}
	return out
}

// checkUnwrap tells whether a key learns some keys.
func checkUnwrap(t *testing.T, what string, b *box.Box, r ring.Ring, key api.Key, want ring.Keys) {
	t.Helper()
	if got, e := ring.Unwrap(b, r, key); e != api.OK || got != want {
		t.Errorf("%s: Unwrap by %x: %v, error %d, want %v", what, key, got, int(e), want)
	}
}

// checkNotUnwrapped tells whether a key learns nothing.
func checkNotUnwrapped(t *testing.T, what string, b *box.Box, r ring.Ring, key api.Key, want api.Errno) {
	t.Helper()
	if got, e := ring.Unwrap(b, r, key); e != want || got != (ring.Keys{}) {
		t.Errorf("%s: Unwrap by %x: %v, error %d, want %d", what, key, got, int(e), int(want))
	}
}

// checkMembers tells whether a key tells some members.
func checkMembers(t *testing.T, what string, b *box.Box, r ring.Ring, owner api.Key, want []member) {
	t.Helper()
	if got, e := ring.Members(b, r, owner); e != api.OK || !slices.Equal(got, want) {
		t.Errorf("%s: Members by %x: %s, error %d, want %s", what, owner, shownMembers(got), int(e), shownMembers(want))
	}
}

// checkNoMembers tells whether a key tells no members.
func checkNoMembers(t *testing.T, what string, b *box.Box, r ring.Ring, owner api.Key, want api.Errno) {
	t.Helper()
	if got, e := ring.Members(b, r, owner); e != want || len(got) != 0 {
		t.Errorf("%s: Members by %x: %s, error %d, want %d", what, owner, shownMembers(got), int(e), int(want))
	}
}

func shown(b []byte) string {
	return fmt.Sprintf("%d bytes %x", len(b), sample.Some(b))
}

func shownRing(r ring.Ring) string {
	return fmt.Sprintf("%d wraps, %s", len(r.Wraps), shown(slices.Concat(slices.Concat(r.Wraps...), r.Dir)))
}

func shownMembers(l []member) string {
	out := fmt.Sprintf("%d members:", len(l))
	for _, m := range l[:min(len(l), most+1)] {
		out += fmt.Sprintf(" %d %x.. %v", m.Number, m.Key[:2], m.Owner)
	}
	return out
}
