package graph_test

import (
	"fmt"
	"slices"
	"testing"

	"coffret/api"
	"coffret/graph"
	"coffret/object"
)

// checkReach tells whether just these are there, and these missing, of what is reached from some; each list rising, each name once.
func checkReach(t *testing.T, what string, s *graph.Set, roots, there, missing []api.Id) {
	t.Helper()
	there, missing = plainRising(there), plainRising(missing)
	if a, b := s.Reach(roots...); !slices.Equal(a, there) || !slices.Equal(b, missing) {
		t.Errorf("%s: there are %s, want %s; missing are %s, want %s", what, some(a), some(there), some(b), some(missing))
	}
}

// checkBeyond tells whether just these are beyond, rising, each once.
func checkBeyond(t *testing.T, what string, s *graph.Set, roots, others, want []api.Id) {
	t.Helper()
	want = plainRising(want)
	if got := s.Beyond(roots, others); !slices.Equal(got, want) {
		t.Errorf("%s: %s, want %s", what, some(got), some(want))
	}
}

// family is objects that name one another, all there: a note on a commit that follows two, which follow one.
type family struct {
	a, b, shared        api.Id // blobs; shared is named by two trees
	inner, left, right  api.Id // trees; inner is in left
	first, second, both api.Id // commits
	third, mark         api.Id // a commit beside the second, and a note on both
}

func relatives(t *testing.T) (*graph.Set, family) {
	t.Helper()
	s := graph.New()
	var f family
	f.a, f.b, f.shared = put(t, s, blob("a")), put(t, s, blob("b")), put(t, s, blob("shared"))
	f.inner = put(t, s, tree(f.b, f.shared))
	f.left = put(t, s, tree(f.a, f.inner))
	f.right = put(t, s, tree(f.shared))
	f.first = put(t, s, commitOf(f.right, 1))
	f.second = put(t, s, commitOf(f.left, 2, f.first))
	f.third = put(t, s, commitOf(f.right, 3, f.first))
	f.both = put(t, s, commitOf(f.left, 4, f.second, f.third))
	f.mark = put(t, s, note(f.both))
	return s, f
}

// P11.2: what is reached from objects of each kind, where all is there.
func TestReach(t *testing.T) {
	s, f := relatives(t)
	leftOnes := []api.Id{f.left, f.a, f.inner, f.b, f.shared}
	firstOnes := []api.Id{f.first, f.right, f.shared}
	secondOnes := append(append(slices.Clone(leftOnes), firstOnes...), f.second)
	bothOnes := append(slices.Clone(secondOnes), f.third, f.both)
	checkReach(t, "no names", s, nil, nil, nil)
	checkReach(t, "no names", s, []api.Id{}, nil, nil)
	checkReach(t, "a blob", s, []api.Id{f.a}, []api.Id{f.a}, nil)
	checkReach(t, "a tree", s, []api.Id{f.right}, []api.Id{f.right, f.shared}, nil)
	checkReach(t, "a tree of trees", s, []api.Id{f.left}, leftOnes, nil)
	checkReach(t, "a commit that follows none", s, []api.Id{f.first}, firstOnes, nil)
	checkReach(t, "a commit", s, []api.Id{f.second}, secondOnes, nil)
	checkReach(t, "a commit that follows two", s, []api.Id{f.both}, bothOnes, nil)
	checkReach(t, "a note", s, []api.Id{f.mark}, append(slices.Clone(bothOnes), f.mark), nil)
	checkReach(t, "two blobs", s, []api.Id{f.b, f.a}, []api.Id{f.a, f.b}, nil)
	checkReach(t, "the same twice", s, []api.Id{f.right, f.right}, []api.Id{f.right, f.shared}, nil)
	checkReach(t, "one that the other reaches", s, []api.Id{f.left, f.inner}, leftOnes, nil)
	checkReach(t, "one that reaches the other", s, []api.Id{f.inner, f.left}, leftOnes, nil)
	checkReach(t, "all", s, s.Ids(), s.Ids(), nil)
	checkReach(t, "all", s, reversed(s.Ids()), s.Ids(), nil)
	alone := setOf(t, tree(f.a, f.a, f.b, f.a), blob("a"), blob("b"))
	checkReach(t, "named several times", alone, []api.Id{object.Id(tree(f.a, f.a, f.b, f.a))}, alone.Ids(), nil)
}

// P11.2: names that are not there are reached, and missing; what they would name is not reached.
func TestReachOfMissing(t *testing.T) {
	s, f := relatives(t)
	x, y := nameOf(1), nameOf(2)
	checkReach(t, "one", s, []api.Id{x}, nil, []api.Id{x})
	checkReach(t, "two", s, []api.Id{x, y}, nil, []api.Id{x, y})
	checkReach(t, "two", s, []api.Id{y, x}, nil, []api.Id{x, y})
	checkReach(t, "one twice", s, []api.Id{x, x}, nil, []api.Id{x})
	checkReach(t, "all zeros", s, []api.Id{{}}, nil, []api.Id{{}})
	checkReach(t, "one that is there too", s, []api.Id{x, f.right}, []api.Id{f.right, f.shared}, []api.Id{x})
	empty := graph.New()
	checkReach(t, "an empty set", empty, nil, nil, nil)
	checkReach(t, "an empty set", empty, []api.Id{x, {}, y, x}, nil, []api.Id{x, {}, y})

	s.Drop(f.inner)
	checkReach(t, "a tree in a tree", s, []api.Id{f.left}, []api.Id{f.left, f.a}, []api.Id{f.inner})
	checkReach(t, "over a tree", s, []api.Id{f.second}, []api.Id{f.second, f.left, f.a, f.first, f.right, f.shared}, []api.Id{f.inner})
	s.Drop(f.second)
	checkReach(t, "a Parent", s, []api.Id{f.both}, []api.Id{f.both, f.left, f.a, f.third, f.first, f.right, f.shared}, []api.Id{f.inner, f.second})
	s.Drop(f.shared)
	checkReach(t, "a blob", s, []api.Id{f.right, f.third}, []api.Id{f.right, f.third, f.first}, []api.Id{f.shared})
	s.Drop(f.both)
	checkReach(t, "a note's target", s, []api.Id{f.mark}, []api.Id{f.mark}, []api.Id{f.both})
	checkReach(t, "a root", s, []api.Id{f.both, f.a}, []api.Id{f.a}, []api.Id{f.both})
}

// P11.2: a commit's tree and its Parents, all there, partly, and not.
func TestReachOfCommits(t *testing.T) {
	top, early, late := tree(), commit(1), commit(2)
	c := commitOf(object.Id(top), 3, object.Id(early), object.Id(late))
	parts := []object.Object{top, early, late}
	for which := range 8 {
		s := setOf(t, c)
		there, missing := []api.Id{object.Id(c)}, []api.Id(nil)
		for i, o := range parts {
			if which>>i&1 == 1 {
				put(t, s, o)
				there = append(there, object.Id(o))
			} else {
				missing = append(missing, object.Id(o))
			}
		}
		if which&6 != 0 {
			missing = append(missing, nameOf(-1)) // the tree of these Parents
		}
		checkReach(t, "a commit", s, []api.Id{object.Id(c)}, there, missing)
	}
}

// P11.2: each of as many entries and Parents as there may be, there or missing.
func TestReachOfEachEntry(t *testing.T) {
	for n := range api.MaxEntries + 1 {
		var l []api.Id
		s, gone := graph.New(), []api.Id{}
		for i := range n {
			l = append(l, put(t, s, blob(fmt.Sprint(i))))
		}
		top := put(t, s, tree(l...))
		checkReach(t, "a full tree", s, []api.Id{top}, append(slices.Clone(l), top), nil)
		for len(l) > 0 {
			s.Drop(l[0])
			gone, l = append(gone, l[0]), l[1:]
			checkReach(t, "a tree", s, []api.Id{top}, append(slices.Clone(l), top), gone)
		}
	}
	for n := range api.MaxParents + 1 {
		var l []api.Id
		for i := range n {
			l = append(l, nameOf(i))
		}
		c := commitOf(nameOf(9), 7, l...)
		checkReach(t, "a commit", setOf(t, c), []api.Id{object.Id(c)}, []api.Id{object.Id(c)}, append(l, nameOf(9)))
	}
}

// P11.2: from a blob nothing is reached, though its Data be those of a tree.
func TestReachOfBlobThatLooksLikeATree(t *testing.T) {
	b := blob(string(tree(nameOf(1)).Data))
	s := setOf(t, b)
	checkReach(t, "a blob", s, []api.Id{object.Id(b)}, []api.Id{object.Id(b)}, nil)
}

// P11.1, P11.2: of a set that is nil, or made by none, all that is asked for is missing.
func TestReachOfUnmadeSets(t *testing.T) {
	x, y := nameOf(1), nameOf(2)
	for _, s := range unmade() {
		checkReach(t, "no names", s, nil, nil, nil)
		checkReach(t, "one", s, []api.Id{x}, nil, []api.Id{x})
		checkReach(t, "several", s, []api.Id{y, x, {}, y, x}, nil, []api.Id{x, y, {}})
		checkBeyond(t, "no names", s, nil, nil, nil)
		checkBeyond(t, "some", s, []api.Id{x, y}, nil, nil)
		checkBeyond(t, "others", s, []api.Id{x, y}, []api.Id{y}, nil)
	}
}

// P11.2: long lines of trees, and as many ways to each as there may be, are gone through.
func TestReachOfManyWays(t *testing.T) {
	s := graph.New()
	tip := put(t, s, blob("end"))
	for range 200 {
		l := make([]api.Id, api.MaxEntries)
		for i := range l {
			l[i] = tip
		}
		tip = put(t, s, tree(l...))
	}
	checkReach(t, "many ways", s, []api.Id{tip}, s.Ids(), nil)
	checkBeyond(t, "many ways", s, []api.Id{tip}, nil, s.Ids())
	checkBeyond(t, "many ways", s, []api.Id{tip}, []api.Id{tip}, nil)
}

// P11.2: what is reached from roots, and not from others.
func TestBeyond(t *testing.T) {
	s, f := relatives(t)
	x := nameOf(1)
	all, _ := s.Reach(f.mark)
	checkBeyond(t, "no roots", s, nil, nil, nil)
	checkBeyond(t, "no roots, but others", s, nil, []api.Id{f.mark, x}, nil)
	checkBeyond(t, "no others", s, []api.Id{f.mark}, nil, all)
	checkBeyond(t, "no others", s, []api.Id{f.mark}, []api.Id{}, all)
	checkBeyond(t, "the same", s, []api.Id{f.mark}, []api.Id{f.mark}, nil)
	checkBeyond(t, "others that reach all", s, []api.Id{f.first, f.second}, []api.Id{f.both}, nil)
	checkBeyond(t, "others that reach some", s, []api.Id{f.both}, []api.Id{f.second}, []api.Id{f.both, f.third})
	checkBeyond(t, "others that reach some", s, []api.Id{f.second}, []api.Id{f.third}, []api.Id{f.second, f.left, f.a, f.inner, f.b})
	checkBeyond(t, "two others", s, []api.Id{f.mark}, []api.Id{f.left, f.third}, []api.Id{f.mark, f.both, f.second})
	checkBeyond(t, "two others", s, []api.Id{f.mark}, []api.Id{f.third, f.left}, []api.Id{f.mark, f.both, f.second})
	checkBeyond(t, "others within", s, []api.Id{f.left}, []api.Id{f.shared}, []api.Id{f.left, f.a, f.inner, f.b})
	checkBeyond(t, "others that reach none", s, []api.Id{f.right}, []api.Id{f.a}, []api.Id{f.right, f.shared})
	checkBeyond(t, "two roots", s, []api.Id{f.b, f.right}, []api.Id{f.a}, []api.Id{f.right, f.shared, f.b})
	checkBeyond(t, "the same twice", s, []api.Id{f.a, f.b, f.a}, []api.Id{f.b, f.b}, []api.Id{f.a})
	checkBeyond(t, "all but all", s, s.Ids(), s.Ids(), nil)
}

// P11.2: what is missing is not beyond, and leads nowhere, among the others too.
func TestBeyondOfMissing(t *testing.T) {
	s, f := relatives(t)
	x := nameOf(1)
	checkBeyond(t, "a root that is not there", s, []api.Id{x}, nil, nil)
	checkBeyond(t, "a root that is not there", s, []api.Id{x, f.a}, []api.Id{f.b}, []api.Id{f.a})
	checkBeyond(t, "another that is not there", s, []api.Id{f.right}, []api.Id{x}, []api.Id{f.right, f.shared})
	checkBeyond(t, "both", s, []api.Id{x}, []api.Id{x}, nil)
	s.Drop(f.second)
	checkBeyond(t, "a Parent that is missing", s, []api.Id{f.both}, []api.Id{f.third}, []api.Id{f.both, f.left, f.a, f.inner, f.b})
	checkBeyond(t, "another that was dropped", s, []api.Id{f.left}, []api.Id{f.second}, []api.Id{f.left, f.a, f.inner, f.b, f.shared})
	s.Drop(f.inner)
	checkBeyond(t, "a tree that is missing", s, []api.Id{f.left}, nil, []api.Id{f.left, f.a})
	checkBeyond(t, "over a tree that is missing", s, []api.Id{f.b, f.shared}, []api.Id{f.left}, []api.Id{f.b, f.shared})
}

// P11.2: tangles of objects, held against the chapter taken word by word.
func TestReachInTangles(t *testing.T) {
	for seed := range uint64(60) {
		r := chances(seed)
		p := tangle(r, 5+r.IntN(25))
		for range r.IntN(4) {
			p = p.without(pick(r, p.ids()))
		}
		s := setOf(t, p...)
		for _, id := range p.asked() {
			there, missing := p.reach([]api.Id{id})
			checkReach(t, "a tangle", s, []api.Id{id}, there, missing)
		}
		for range 10 {
			roots, others := picks(r, p.ids(), 4, true), picks(r, p.ids(), 3, true)
			there, missing := p.reach(roots)
			checkReach(t, "a tangle", s, roots, there, missing)
			checkBeyond(t, "a tangle", s, roots, others, p.beyond(roots, others))
		}
		checkIds(t, s, p)
	}
}

// P11.4: what is reached from some is reached from more.
func TestReachOfMore(t *testing.T) {
	for seed := range uint64(60) {
		r := chances(seed)
		s := setOf(t, tangle(r, 20)...)
		for range 10 {
			few, more := picks(r, s.Ids(), 3, true), picks(r, s.Ids(), 3, true)
			there, missing := s.Reach(few...)
			for _, l := range [][]api.Id{slices.Concat(few, more), slices.Concat(more, few)} {
				moreThere, moreMissing := s.Reach(l...)
				if !within(there, moreThere) || !within(missing, moreMissing) {
					t.Errorf("from %d names something is reached that is not from %d with these among them", len(few), len(l))
				}
			}
		}
	}
}

// within tells whether all names of one list are in another.
func within(l, more []api.Id) bool {
	for _, id := range l {
		if !slices.Contains(more, id) {
			return false
		}
	}
	return true
}

// P11.4: where nothing is missing, what is beyond and what was reached from the others are together all that is reached.
func TestBeyondAndOthersAreAll(t *testing.T) {
	whole := 0
	for seed := range uint64(60) {
		r := chances(seed)
		s, _ := relatives(t)
		for range 30 {
			// All that these name is there.
			switch l := s.Ids(); r.IntN(3) {
			case 0:
				put(t, s, tree(l[r.IntN(len(l))], l[r.IntN(len(l))]))
			case 1:
				put(t, s, note(l[r.IntN(len(l))]))
			default:
				put(t, s, commitOf(l[r.IntN(len(l))], uint64(r.IntN(9)), l[r.IntN(len(l))]))
			}
		}
		for range 10 {
			l := s.Ids()
			roots, others := []api.Id{l[r.IntN(len(l))], l[r.IntN(len(l))]}, []api.Id{l[r.IntN(len(l))]}
			all, missing := s.Reach(roots...)
			if len(missing) > 0 {
				t.Fatalf("missing are %s", some(missing))
			}
			checkTakenIn(t, s, roots, others, all)
			if both, _ := s.Reach(slices.Concat(roots, others)...); len(both) > len(all) {
				whole++
			}
		}
	}
	if whole == 0 {
		t.Error("others never reached what the roots do not")
	}
}

// checkTakenIn tells whether a set with what was reached from others, that takes what is beyond in, has all that is reached; and that nothing of it was there twice.
func checkTakenIn(t *testing.T, s *graph.Set, roots, others, all []api.Id) {
	t.Helper()
	taker := graph.New()
	had, _ := s.Reach(others...)
	beyond := s.Beyond(roots, others)
	for _, id := range slices.Concat(had, beyond) {
		o, e := s.Get(id)
		if e != api.OK || taker.Has(id) {
			t.Errorf("%x: error %d, or there twice", id, int(e))
		}
		put(t, taker, o)
	}
	there, missing := taker.Reach(roots...)
	if !slices.Equal(there, all) || len(missing) > 0 || !within(beyond, all) {
		t.Errorf("there are %s, missing %s; want %s", some(there), some(missing), some(all))
	}
}
