package graph_test

import (
	"slices"
	"testing"

	"coffret/api"
	"coffret/graph"
	"coffret/object"
	"coffret/sample"
)

// checkSpared tells whether what withSpare made of a list is as it was, its spare room too.
func checkSpared(t *testing.T, what string, own, l []api.Id) {
	t.Helper()
	if !slices.Equal(own[:len(l)+3], withSpare(l)[:len(l)+3]) {
		t.Errorf("%s: the list of %d names was touched", what, len(l))
	}
}

// withSpare is a copy of a list with known names in its spare room.
func withSpare(l []api.Id) []api.Id {
	return append(slices.Clone(l), nameOf(50), nameOf(51), nameOf(52))[:len(l)]
}

// Rules 4 and 8: an object that is put in is as it was, its spare room too, and may be written over then.
func TestPutKeepsNothingOfTheCaller(t *testing.T) {
	for _, o := range kinds() {
		s := graph.New()
		own := object.Object{Kind: o.Kind, Data: sample.Spared(o.Data)}
		put(t, s, own)
		if !sample.Untouched(own.Data, o.Data) {
			t.Errorf("%s was touched", shown(o))
		}
		sample.Overwrite(own.Data, 0xDD)
		checkIds(t, s, plainSet{o})

		again := object.Object{Kind: o.Kind, Data: slices.Clone(o.Data)}
		put(t, s, again)
		sample.Overwrite(again.Data, 0xDD)
		checkIds(t, s, plainSet{o})
	}
	for _, x := range wrongs() {
		own := object.Object{Kind: x.o.Kind, Data: sample.Spared(x.o.Data)}
		graph.New().Put(own)
		if !sample.Untouched(own.Data, x.o.Data) {
			t.Errorf("%s was touched", shown(x.o))
		}
	}
}

// Rule 4: what Get hands out is new memory, its spare room too, of a set and of its clones.
func TestGetHandsOutNewMemory(t *testing.T) {
	s := setOf(t, kinds()...)
	c := s.Clone()
	for _, o := range kinds() {
		for _, x := range []*graph.Set{s, c, s.Clone()} {
			got, _ := x.Get(object.Id(o))
			other, _ := x.Get(object.Id(o))
			sample.Overwrite(got.Data, 0xDD)
			if !sameObject(other, o) {
				t.Errorf("%s: two answers share memory", shown(o))
			}
			_ = append(other.Data, 0xEE)
			checkIds(t, x, kinds())
		}
	}
	checkIds(t, s, kinds())
	checkIds(t, c, kinds())
}

// Rule 4: an object that was handed out stays as it is when it is dropped, or put in again.
func TestWhatWasHandedOutStays(t *testing.T) {
	s := setOf(t, kinds()...)
	for _, o := range kinds() {
		got, _ := s.Get(object.Id(o))
		s.Drop(object.Id(o))
		put(t, s, o)
		s.Drop(object.Id(o))
		if !sameObject(got, o) {
			t.Errorf("%s, want %s", shown(got), shown(o))
		}
	}
}

// Rules 4 and 8: names that are handed in are as they were, and not read beyond their length.
func TestNamesAreNotTouched(t *testing.T) {
	s, f := relatives(t)
	for _, l := range [][]api.Id{nil, {f.both}, {f.right, f.left}, {f.shared, f.a, f.shared, nameOf(1)}, reversed(s.Ids())} {
		for _, x := range append(unmade(), s) {
			own, others := withSpare(l), withSpare(l[:len(l)/2])
			there, missing := x.Reach(own...)
			wantThere, wantMissing := x.Reach(slices.Clip(slices.Clone(l))...)
			if !slices.Equal(there, wantThere) || !slices.Equal(missing, wantMissing) {
				t.Errorf("there are %s, want %s; missing are %s, want %s", some(there), some(wantThere), some(missing), some(wantMissing))
			}
			x.Beyond(own, others)
			checkSpared(t, "roots", own, l)
			checkSpared(t, "others", others, l[:len(l)/2])
		}
	}
	checkReach(t, "afterwards", s, s.Ids(), s.Ids(), nil)
}

// Rule 4: lists that are handed out are new memory: of the set, of what was handed in, and of one another.
func TestListsAreNewMemory(t *testing.T) {
	s, f := relatives(t)
	ids := slices.Clone(s.Ids())
	log := slices.Clone(s.Log(f.both))
	roots := []api.Id{f.both, nameOf(1), nameOf(2)}
	wantThere, wantMissing := s.Reach(roots...)
	wantThere, wantMissing = slices.Clone(wantThere), slices.Clone(wantMissing)
	beyond := slices.Clone(s.Beyond(roots, []api.Id{f.first}))
	for range 3 {
		sample.Overwrite(s.Ids(), nameOf(9))
		sample.Overwrite(s.Log(f.both), nameOf(9))
		sample.Overwrite(s.Beyond(roots, []api.Id{f.first}), nameOf(9))
		there, missing := s.Reach(roots...)
		sample.Overwrite(there, nameOf(9))
		if !slices.Equal(missing, wantMissing) {
			t.Error("what is missing shares memory with what is there")
		}
		there, missing = s.Reach(roots...)
		sample.Overwrite(missing, nameOf(9))
		if !slices.Equal(there, wantThere) {
			t.Error("what is there shares memory with what is missing")
		}
		if !slices.Equal(roots, []api.Id{f.both, nameOf(1), nameOf(2)}) {
			t.Error("an answer shares memory with the roots")
		}
	}
	there, missing := s.Reach(roots...)
	if !slices.Equal(s.Ids(), ids) || !slices.Equal(s.Log(f.both), log) || !slices.Equal(s.Beyond(roots, []api.Id{f.first}), beyond) || !slices.Equal(there, wantThere) || !slices.Equal(missing, wantMissing) {
		t.Error("what is told is another")
	}
}

// Rule 4: what was handed in as roots may be written over; what was told stays.
func TestRootsAreNotKept(t *testing.T) {
	for _, s := range append(unmade(), graph.New(), setOf(t, blob("a"), blob("b"))) {
		own := []api.Id{nameOf(1), object.Id(blob("a")), object.Id(blob("b"))}
		others := []api.Id{nameOf(2)}
		there, missing := s.Reach(own...)
		beyond := s.Beyond(own, others)
		wantThere, wantMissing, wantBeyond := slices.Clone(there), slices.Clone(missing), slices.Clone(beyond)
		sample.Overwrite(own, nameOf(9))
		sample.Overwrite(others, nameOf(9))
		if !slices.Equal(there, wantThere) || !slices.Equal(missing, wantMissing) || !slices.Equal(beyond, wantBeyond) {
			t.Error("an answer shares memory with what was handed in")
		}
	}
}

// Rule 5: asked again, the same is told, and nothing has changed by being asked.
func TestAskedAgain(t *testing.T) {
	s, f := relatives(t)
	s.Drop(f.inner)
	ids := s.Ids()
	for range 20 {
		checkReach(t, "again", s, []api.Id{f.second}, []api.Id{f.second, f.left, f.a, f.first, f.right, f.shared}, []api.Id{f.inner})
		checkBeyond(t, "again", s, []api.Id{f.both}, []api.Id{f.second}, []api.Id{f.both, f.third})
		checkLog(t, "again", s, f.both, f.both, f.third, f.second, f.first)
		checkFollows(t, "again", s, f.both, f.first, true)
		if !slices.Equal(s.Ids(), ids) {
			t.Fatal("the set is another")
		}
	}
}
