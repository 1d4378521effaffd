package graph_test

import (
	"slices"
	"testing"

	"coffret/api"
	"coffret/graph"
	"coffret/object"
)

// checkThere tells whether an object is there by its name.
func checkThere(t *testing.T, s *graph.Set, o object.Object) {
	t.Helper()
	id := object.Id(o)
	if got, e := s.Get(id); e != api.OK || !sameObject(got, o) {
		t.Errorf("%s: Get is %s, error %d", shown(o), shown(got), int(e))
	}
	if !s.Has(id) || !slices.Contains(s.Ids(), id) {
		t.Errorf("%s: Has is %v, Ids are %s", shown(o), s.Has(id), some(s.Ids()))
	}
}

// checkAbsent tells whether a name is of nothing: Get and Drop tell which error, and nothing beside it.
func checkAbsent(t *testing.T, s *graph.Set, id api.Id, want api.Errno) {
	t.Helper()
	if got, e := s.Get(id); e != want || got.Kind != 0 || len(got.Data) != 0 {
		t.Errorf("%x: Get is %s, error %d, want %d", id, shown(got), int(e), int(want))
	}
	if s.Has(id) || slices.Contains(s.Ids(), id) {
		t.Errorf("%x: Has is %v, Ids are %s", id, s.Has(id), some(s.Ids()))
	}
	if e := s.Drop(id); e != want {
		t.Errorf("%x: Drop is %d, want %d", id, int(e), int(want))
	}
}

// checkIds tells whether a set has just the objects of a list, its names rising.
func checkIds(t *testing.T, s *graph.Set, p plainSet) {
	t.Helper()
	if got, want := s.Ids(), p.ids(); !slices.Equal(got, want) {
		t.Errorf("Ids are %s, want %s", some(got), some(want))
	}
	for _, o := range p {
		checkThere(t, s, o)
	}
}

// P11.1: an empty set is there, and has nothing.
func TestNew(t *testing.T) {
	s := graph.New()
	if s == nil || len(s.Ids()) != 0 {
		t.Fatalf("%v", s)
	}
	for _, id := range []api.Id{{}, nameOf(1), object.Id(blob("")), object.Id(object.Object{})} {
		checkAbsent(t, s, id, api.ErrNone)
	}
	other := graph.New()
	put(t, s, blob("a"))
	checkIds(t, other, nil)
}

// P11.1: each kind of object is taken, and there by its name then, whether what it names is there or not.
func TestPutOfEachKind(t *testing.T) {
	for _, o := range kinds() {
		s := graph.New()
		put(t, s, o)
		checkIds(t, s, plainSet{o})
	}
	s, p := graph.New(), plainSet{}
	for _, o := range kinds() {
		checkAbsent(t, s, object.Id(o), api.ErrNone)
		put(t, s, o)
		p = p.with(o)
		checkIds(t, s, p)
	}
}

// P11.1: the same object twice is there once.
func TestPutTwice(t *testing.T) {
	s, p := graph.New(), plainSet{}
	for range 3 {
		for _, o := range kinds() {
			put(t, s, o)
			p = p.with(o)
		}
		checkIds(t, s, p)
	}
	if len(p) != len(kinds()) {
		t.Errorf("%d objects of %d", len(p), len(kinds()))
	}
	id := object.Id(kinds()[0])
	if s.Drop(id) != api.OK {
		t.Error("Drop")
	}
	checkAbsent(t, s, id, api.ErrNone)
}

// P11.1: objects that object.Check does not take, by which error; nothing is there by them.
func TestPutOfWrongObjects(t *testing.T) {
	for _, x := range wrongs() {
		s := setOf(t, kinds()...)
		if id, e := s.Put(x.o); e != x.want || id != (api.Id{}) || e != object.Check(x.o) {
			t.Errorf("%s: %x, error %d, want %d", shown(x.o), id, int(e), int(x.want))
		}
		checkIds(t, s, kinds())
		if !slices.Contains(plainSet(kinds()).ids(), object.Id(x.o)) {
			checkAbsent(t, s, object.Id(x.o), api.ErrNone)
		}
		checkAbsent(t, s, api.Id{}, api.ErrNone)
	}
}

// P11.1: what is dropped is there no more, till it is put in again; the others are.
func TestDrop(t *testing.T) {
	for _, o := range kinds() {
		s := setOf(t, kinds()...)
		id := object.Id(o)
		if e := s.Drop(id); e != api.OK {
			t.Errorf("%s: Drop is %d", shown(o), int(e))
		}
		checkAbsent(t, s, id, api.ErrNone)
		checkIds(t, s, plainSet(kinds()).without(id))
		put(t, s, o)
		checkIds(t, s, kinds())
	}
}

// P11.1: names that are nearly one that is there are not.
func TestNamesNearby(t *testing.T) {
	o := blob("a")
	s := setOf(t, o)
	for i := range 256 {
		id := object.Id(o)
		id[i/8] ^= 1 << (i % 8)
		checkAbsent(t, s, id, api.ErrNone)
	}
	checkIds(t, s, plainSet{o})
}

// P11.1: of a set that is nil, or made by none, nothing is there, and nothing is put in.
func TestUnmadeSets(t *testing.T) {
	for _, s := range unmade() {
		for range 2 {
			for _, o := range kinds() {
				if id, e := s.Put(o); e != api.ErrNil || id != (api.Id{}) {
					t.Errorf("Put is %x, error %d", id, int(e))
				}
				checkAbsent(t, s, object.Id(o), api.ErrNil)
			}
			for _, x := range wrongs() {
				if id, e := s.Put(x.o); e != api.ErrNil || id != (api.Id{}) {
					t.Errorf("%s: Put is %x, error %d", shown(x.o), id, int(e))
				}
			}
			checkAbsent(t, s, api.Id{}, api.ErrNil)
			if len(s.Ids()) != 0 {
				t.Errorf("Ids are %s", some(s.Ids()))
			}
			if c := s.Clone(); c != nil {
				t.Errorf("Clone is %v", c)
			}
		}
	}
}

// P11.1: all names rise, by all of their bytes, whichever came first.
func TestIdsRise(t *testing.T) {
	var p plainSet
	s, firsts := graph.New(), map[byte]bool{}
	for i := range 700 {
		o := blob(string(rune(i)) + "x")
		put(t, s, o)
		p = p.with(o)
		firsts[object.Id(o)[0]] = true
		if i < 20 {
			checkIds(t, s, p)
		}
	}
	if len(firsts) == len(p) || len(firsts) < 200 {
		t.Errorf("%d names begin with %d bytes: none or nearly all are told by a later byte", len(p), len(firsts))
	}
	l := s.Ids()
	if len(l) != 700 {
		t.Fatalf("%d names", len(l))
	}
	for i := 1; i < len(l); i++ {
		if !plainLess(l[i-1], l[i]) {
			t.Errorf("%x stands ahead of %x", l[i-1], l[i])
		}
	}
	if again := setOf(t, reversed(p)...).Ids(); !slices.Equal(again, l) {
		t.Error("put in the other way round, the names stand in another order")
	}
}

func reversed[T any](l []T) []T {
	l = slices.Clone(l)
	slices.Reverse(l)
	return l
}

// P11.1: Clone has the same objects; then the two go their own ways.
func TestClone(t *testing.T) {
	for n := range kinds() {
		l := plainSet(kinds()[:n])
		s := setOf(t, l...)
		c := s.Clone()
		if c == nil || c == s {
			t.Fatalf("Clone is %v", c)
		}
		checkIds(t, c, l)
		more, less := kinds()[n], blob("more")
		put(t, s, more)
		put(t, c, less)
		checkIds(t, s, l.with(more))
		checkIds(t, c, l.with(less))
		checkAbsent(t, c, object.Id(more), api.ErrNone)
		checkAbsent(t, s, object.Id(less), api.ErrNone)
		for i, o := range l {
			from, other := s, c
			if i%2 == 1 {
				from, other = c, s
			}
			if from.Drop(object.Id(o)) != api.OK {
				t.Error("Drop")
			}
			checkAbsent(t, from, object.Id(o), api.ErrNone)
			checkThere(t, other, o)
		}
	}
}

// P11.1: a clone of a clone, and one of a set out of which objects went.
func TestCloneAgain(t *testing.T) {
	s := setOf(t, kinds()...)
	s.Drop(object.Id(kinds()[0]))
	c := s.Clone().Clone()
	checkIds(t, c, kinds()[1:])
	s.Drop(object.Id(kinds()[1]))
	checkIds(t, c, kinds()[1:])
	checkIds(t, s, kinds()[2:])
}

// P11.1: which of two names is less.
func TestLess(t *testing.T) {
	zeros, ones := api.Id{}, api.Id{}
	for i := range ones {
		ones[i] = 0xff
	}
	for _, c := range []struct{ less, more api.Id }{
		{zeros, ones},
		{zeros, api.Id{0: 1}},
		{zeros, api.Id{31: 1}},
		{api.Id{0: 1}, api.Id{0: 2}},
		{api.Id{31: 1}, api.Id{31: 2}},
		{api.Id{31: 255}, api.Id{30: 1}},
		{api.Id{1: 255}, api.Id{0: 1}},
		{api.Id{0: 0x7f}, api.Id{0: 0x80}},
		{api.Id{0: 0x7f, 1: 0xff}, api.Id{0: 0x80}},
		{api.Id{0: 0x80}, api.Id{0: 0xff}},
		{api.Id{0: 1}, api.Id{0: 0x80}},
		{api.Id{31: 0x7f}, api.Id{31: 0x80}},
		{api.Id{31: 0x80}, api.Id{31: 0x81}},
		{api.Id{31: 0xfe}, api.Id{31: 0xff}},
		{api.Id{15: 0x7f, 16: 0xff}, api.Id{15: 0x80}},
	} {
		if !graph.Less(c.less, c.more) || graph.Less(c.more, c.less) {
			t.Errorf("%x and %x: %v, %v", c.less, c.more, graph.Less(c.less, c.more), graph.Less(c.more, c.less))
		}
	}
	for _, id := range []api.Id{zeros, ones, nameOf(1), {0: 0x80}, {31: 0x80}} {
		if graph.Less(id, id) {
			t.Errorf("%x is less than itself", id)
		}
	}
}

// P11.1: names that differ at one place, whatever stands behind it.
func TestLessAtEachPlace(t *testing.T) {
	values := []byte{0, 1, 0x7f, 0x80, 0x81, 0xfe, 0xff}
	for i := range len(api.Id{}) {
		for _, x := range values {
			for _, y := range values {
				for _, behind := range [][2]byte{{0, 0}, {0, 0xff}, {0xff, 0}} {
					a, b := nameOf(3), nameOf(3)
					a[i], b[i] = x, y
					for j := i + 1; j < len(a); j++ {
						a[j], b[j] = behind[0], behind[1]
					}
					if got, want := graph.Less(a, b), plainLess(a, b); got != want {
						t.Errorf("%x and %x: %v, want %v", a, b, got, want)
					}
				}
			}
		}
	}
}

// P11.1: objects that go in and out, held against the chapter taken word by word.
func TestPlayOfPutsAndDrops(t *testing.T) {
	for seed := range uint64(20) {
		r := chances(seed)
		l := tangle(r, 15)
		s, p := graph.New(), plainSet{}
		for range 150 {
			o := l[r.IntN(len(l))]
			id := object.Id(o)
			_, there := p.find(id)
			switch {
			case r.IntN(20) == 0:
				s = s.Clone()
			case r.IntN(2) == 0:
				put(t, s, o)
				p = p.with(o)
			case there:
				if e := s.Drop(id); e != api.OK {
					t.Fatalf("Drop is %d", int(e))
				}
				p = p.without(id)
			default:
				checkAbsent(t, s, id, api.ErrNone)
			}
			checkIds(t, s, p)
		}
	}
}
