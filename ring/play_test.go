package ring_test

import (
	"fmt"
	"math/rand/v2"
	"slices"
	"testing"

	"coffret/api"
	"coffret/ring"
	"coffret/sample"
)

// byChance are members by chance, of few Numbers and Keys, that may be now and then.
func byChance(r *rand.Rand) []member {
	l := some(r.IntN(10))
	for i := range l {
		l[i].Number = 1 + r.IntN(255)
		l[i].Owner = r.IntN(4) == 0
		l[i].Key = keyOf(r.IntN(60))
		if r.IntN(40) == 0 {
			l[i].Number = []int{0, -1, 256, 255, 1}[r.IntN(5)]
		}
		if r.IntN(20) == 0 {
			l[i].Key = keyOf(0)
		}
	}
	return l
}

// player plays with one box: it makes rings, changes them, and asks them by all keys.
type player struct {
	pair
	r     *rand.Rand
	rings []ring.Ring
	keys  []ring.Keys
}

// Promises P16.2 to P16.5, in plays by chance, held against the chapter taken word by word.
func TestPlays(t *testing.T) {
	for seed := range uint64(20) {
		for _, mode := range modes() {
			r := chosen(100 + seed)
			p := &player{pair: paired(t, mode, sample.Text(r.IntN(3000))), r: r, keys: []ring.Keys{{}}}
			for range 40 {
				p.step(t)
			}
		}
	}
}

func (p *player) step(t *testing.T) {
	t.Helper()
	switch p.r.IntN(6) {
	case 0, 1:
		if r, k, e := p.make(t, p.r.Uint64(), byChance(p.r)); e == api.OK {
			p.keep(r, k)
		}
	case 2:
		k := p.keys[p.r.IntN(len(p.keys))]
		if r, e := p.again(t, k, byChance(p.r)); e == api.OK {
			p.keep(r, k)
		}
	case 3:
		if len(p.rings) > 0 {
			p.keep(p.changed(p.one()), p.keys[len(p.keys)-1])
		}
	case 4:
		if len(p.rings) > 0 {
			p.putAndRead(t, p.one())
		}
	}
	if len(p.rings) > 0 {
		p.ask(t, p.one())
	}
}

func (p *player) keep(r ring.Ring, k ring.Keys) {
	p.rings = append(p.rings, r)
	p.keys = append(p.keys, k)
}

func (p *player) one() ring.Ring {
	return p.rings[p.r.IntN(len(p.rings))]
}

// changed is a ring with something in it that is another's, another, or elsewhere.
func (p *player) changed(r ring.Ring) ring.Ring {
	r = cloned(r)
	other := p.one()
	if len(r.Wraps) == 0 || len(other.Wraps) == 0 || len(r.Dir) == 0 {
		return r
	}
	i, j := p.r.IntN(len(r.Wraps)), p.r.IntN(len(other.Wraps))
	switch p.r.IntN(7) {
	case 0:
		r.Wraps[i] = slices.Clone(other.Wraps[j])
	case 1:
		r.Wraps = append(r.Wraps, other.Wraps[j])
	case 2:
		r.Wraps = slices.Delete(r.Wraps, i, i+1)
	case 3:
		r.Wraps[i] = sample.Turned(r.Wraps[i], p.r.IntN(8*len(r.Wraps[i])))
	case 4:
		r.Dir = slices.Clone(other.Dir)
	case 5:
		r.Dir = sample.Turned(r.Dir, p.r.IntN(8*len(r.Dir)))
	case 6:
		slices.Reverse(r.Wraps)
	}
	return r
}

func (p *player) putAndRead(t *testing.T, r ring.Ring) {
	t.Helper()
	got, e := ring.Read(ring.Put(r))
	if len(ring.Put(r)) != wholeBytes {
		if e != api.ErrForm {
			t.Errorf("%s: error %d", shownRing(r), int(e))
		}
		return
	}
	if e != api.OK {
		t.Errorf("%s: error %d", shownRing(r), int(e))
	}
	checkSame(t, "put and read", got, r)
}

// ask asks a ring by members' keys, by those of rings, and by what these learn.
func (p *player) ask(t *testing.T, r ring.Ring) {
	t.Helper()
	what := fmt.Sprintf("one of %d rings", len(p.rings))
	asked := []api.Key{{}}
	for range 20 {
		asked = append(asked, keyOf(p.r.IntN(60)))
	}
	for _, k := range p.keys[max(0, len(p.keys)-3):] {
		asked = append(asked, k.Key, k.Owner)
	}
	for _, key := range asked {
		if k, e := p.unwrap(t, what, r, key); e == api.OK && k.Owns {
			p.members(t, what, r, k.Owner)
		}
		p.members(t, what, r, key)
	}
}
