package graph_test

import (
	"fmt"
	"math"
	"slices"
	"testing"

	"coffret/api"
	"coffret/graph"
	"coffret/object"
)

// checkFollows tells whether one follows another, or not.
func checkFollows(t *testing.T, what string, s *graph.Set, later, earlier api.Id, want bool) {
	t.Helper()
	if got := s.Follows(later, earlier); got != want {
		t.Errorf("%s: %v, want %v", what, got, want)
	}
}

// checkLog tells whether just these are told, in that order.
func checkLog(t *testing.T, what string, s *graph.Set, tip api.Id, want ...api.Id) {
	t.Helper()
	if got := s.Log(tip); !slices.Equal(got, want) {
		t.Errorf("%s: %s, want %s", what, some(got), some(want))
	}
}

// P11.3: a name follows itself, whatever it is of, and whether it is there or not.
func TestFollowsItself(t *testing.T) {
	s := setOf(t, kinds()...)
	for _, id := range append(s.Ids(), nameOf(1), api.Id{}) {
		checkFollows(t, "itself", s, id, id, true)
		checkFollows(t, "itself, in an empty set", graph.New(), id, id, true)
	}
	id := object.Id(commit(0))
	s.Drop(id)
	checkFollows(t, "itself, dropped", s, id, id, true)
}

// P11.3: commits follow their Parents, and what these follow, and not the other way round.
func TestFollowsParents(t *testing.T) {
	s, f := relatives(t)
	for _, c := range []struct {
		what           string
		later, earlier api.Id
	}{
		{"a Parent", f.second, f.first},
		{"the first of two Parents", f.both, f.second},
		{"the second of two Parents", f.both, f.third},
		{"a Parent's Parent", f.both, f.first},
	} {
		checkFollows(t, c.what, s, c.later, c.earlier, true)
		checkFollows(t, c.what+", the wrong way round", s, c.earlier, c.later, false)
	}
	checkFollows(t, "another line", s, f.second, f.third, false)
	checkFollows(t, "another line", s, f.third, f.second, false)
	checkFollows(t, "what is not there", s, f.both, nameOf(1), false)
	checkFollows(t, "what is not there", s, nameOf(1), f.first, false)
	checkFollows(t, "what is not there", s, nameOf(1), nameOf(2), false)
	checkFollows(t, "all zeros", s, f.both, api.Id{}, false)
}

// P11.3: each of as many Parents as there may be.
func TestFollowsEachParent(t *testing.T) {
	for n := range api.MaxParents + 1 {
		s, end, beside := graph.New(), commit(1), commit(2)
		put(t, s, end)
		put(t, s, beside)
		var parents []api.Id
		for i := range n {
			parents = append(parents, put(t, s, commit(uint64(10+i), object.Id(beside))))
		}
		for i := range n {
			own := slices.Clone(parents)
			own[i] = put(t, s, commit(uint64(20+i), object.Id(end)))
			c := put(t, s, commit(30, own...))
			checkFollows(t, "by one Parent", s, c, object.Id(end), true)
			for j := range n {
				checkFollows(t, "each Parent", s, c, own[j], true)
			}
		}
		c := put(t, s, commit(30, parents...))
		checkFollows(t, "by none", s, c, object.Id(end), false)
		checkFollows(t, "by each", s, c, object.Id(beside), n > 0)
	}
}

// P11.3: only by Parents: not what a tree or a note names, nor a commit's tree.
func TestFollowsNoOtherNames(t *testing.T) {
	s, f := relatives(t)
	other := put(t, s, tree(f.second))
	top := put(t, s, commitOf(other, 9))
	under := put(t, s, commitOf(f.first, 9))
	checkFollows(t, "a note's target", s, f.mark, f.both, false)
	checkFollows(t, "what a note's target follows", s, f.mark, f.first, false)
	checkFollows(t, "a tree's entry", s, f.left, f.inner, false)
	checkFollows(t, "a commit's tree", s, f.first, f.right, false)
	checkFollows(t, "a commit in a tree", s, top, f.second, false)
	checkFollows(t, "a commit for a tree", s, under, f.first, false)
	checkFollows(t, "from a tree", s, other, f.second, false)
	checkFollows(t, "a blob", s, f.a, f.b, false)
}

// P11.3: a Parent that is missing, or that is no commit, is followed, but nothing beyond it.
func TestFollowsOverGaps(t *testing.T) {
	s, f := relatives(t)
	noted := put(t, s, commit(9, f.mark))
	treed := put(t, s, commit(9, put(t, s, tree(f.first))))
	checkFollows(t, "a note for a Parent", s, noted, f.mark, true)
	checkFollows(t, "over a note", s, noted, f.both, false)
	checkFollows(t, "a tree for a Parent", s, treed, object.Id(tree(f.first)), true)
	checkFollows(t, "over a tree", s, treed, f.first, false)

	gone := put(t, s, commit(9, nameOf(1)))
	after := put(t, s, commit(9, gone))
	checkFollows(t, "a Parent that is missing", s, gone, nameOf(1), true)
	checkFollows(t, "a Parent's Parent that is missing", s, after, nameOf(1), true)
	checkFollows(t, "another that is missing", s, after, nameOf(2), false)

	s.Drop(f.second)
	checkFollows(t, "a Parent that was dropped", s, f.both, f.second, true)
	checkFollows(t, "by the other Parent", s, f.both, f.first, true)
	checkFollows(t, "of one that was dropped", s, f.second, f.first, false)
	s.Drop(f.third)
	checkFollows(t, "over two that were dropped", s, f.both, f.first, false)
	s.Drop(f.both)
	checkFollows(t, "of one that was dropped", s, f.both, f.second, false)
}

// P11.1, P11.3: of a set that is nil, or made by none, nothing is there: a name follows itself alone, and Log is empty.
func TestLinesOfUnmadeSets(t *testing.T) {
	x, y := object.Id(commit(2, object.Id(commit(1)))), object.Id(commit(1))
	for _, s := range unmade() {
		checkFollows(t, "itself", s, x, x, true)
		checkFollows(t, "itself", s, api.Id{}, api.Id{}, true)
		checkFollows(t, "another", s, x, y, false)
		checkFollows(t, "another", s, y, x, false)
		checkLog(t, "a commit", s, x)
		checkLog(t, "all zeros", s, api.Id{})
	}
}

// P11.3 and the chapter's example 1: a commit that follows none is told alone; what is no commit of the set is not told.
func TestLogOfOne(t *testing.T) {
	s, f := relatives(t)
	checkLog(t, "a commit that follows none", s, f.first, f.first)
	checkLog(t, "a blob", s, f.a)
	checkLog(t, "a tree", s, f.left)
	checkLog(t, "a note", s, f.mark)
	checkLog(t, "what is not there", s, nameOf(1))
	checkLog(t, "all zeros", s, api.Id{})
	checkLog(t, "an empty set", graph.New(), f.first)
	s.Drop(f.first)
	checkLog(t, "what was dropped", s, f.first)
	checkLog(t, "its Parent was dropped", s, f.second, f.second)
	checkLog(t, "two lines to what was dropped", s, f.both, f.both, f.third, f.second)
}

// P11.3: a line is told from its tip on, whatever the Times are.
func TestLogOfALine(t *testing.T) {
	for _, times := range [][]uint64{{1, 2, 3, 4, 5}, {5, 4, 3, 2, 1}, {7, 7, 7, 7, 7}, {3, 9, 0, math.MaxUint64, 5}, {0, math.MaxUint64, 0, 1 << 63, 1<<63 - 1}} {
		s := graph.New()
		var line []api.Id
		for _, time := range times {
			line = append(line, put(t, s, commit(time, line[max(0, len(line)-1):]...)))
		}
		for i := range line {
			checkLog(t, "a line", s, line[i], reversed(line[:i+1])...)
		}
	}
}

// P11.3: of two lines that meet again the later is told first, whichever Parent it is, and each commit once.
func TestLogOfTwoLines(t *testing.T) {
	for _, times := range [][2]uint64{{3, 2}, {2, 3}, {math.MaxUint64, 1}, {1 << 63, 1<<63 - 1}, {1 << 32, 1<<32 - 1}} {
		s := graph.New()
		first := put(t, s, commit(0))
		a := put(t, s, commit(times[0], first))
		b := put(t, s, commit(times[1], first))
		early, late := b, a
		if times[0] < times[1] {
			early, late = a, b
		}
		checkLog(t, "two lines", s, put(t, s, commit(9, a, b)), object.Id(commit(9, a, b)), late, early, first)
		checkLog(t, "two lines", s, put(t, s, commit(9, b, a)), object.Id(commit(9, b, a)), late, early, first)
	}
}

// P11.3: a commit waits till one that follows it is told, though it be later than all others; then it is next.
func TestLogWaitsForWhoFollows(t *testing.T) {
	s := graph.New()
	first := put(t, s, commit(99))
	second := put(t, s, commit(3, first))
	low := put(t, s, commit(2, second))
	mid := put(t, s, commit(5))
	high := put(t, s, commit(6, mid))
	tip := put(t, s, commit(0, low, high))
	checkLog(t, "Times that fall and rise", s, tip, tip, high, mid, low, second, first)

	s = graph.New()
	end := put(t, s, commit(4))
	hidden := put(t, s, commit(99, end))
	a := put(t, s, commit(7, hidden))
	b := put(t, s, commit(6))
	c := put(t, s, commit(3))
	tip = put(t, s, commit(1, c, b, a))
	checkLog(t, "one that comes to light", s, tip, tip, a, hidden, b, end, c)
}

// P11.3: a commit that is met by its tip and again later is told once, where its Time puts it.
func TestLogOfShortcuts(t *testing.T) {
	for _, times := range [][3]uint64{{1, 2, 3}, {3, 2, 1}, {5, 2, 9}, {2, 2, 2}} {
		s := graph.New()
		a := put(t, s, commit(times[0]))
		b := put(t, s, commit(times[1], a))
		c := put(t, s, commit(times[2], b, a))
		d := put(t, s, commit(4, a, c, b))
		p := plainSet{commit(times[0]), commit(times[1], a), commit(times[2], b, a), commit(4, a, c, b)}
		got := s.Log(d)
		if want := p.log(d); !slices.Equal(got, want) || len(got) != 4 {
			t.Errorf("%v: %s, want %s", times, some(got), some(want))
		}
	}
}

// P11.3: of equal Times the lesser name is first, whichever Parent it is.
func TestLogOfEqualTimes(t *testing.T) {
	for _, time := range []uint64{0, 5, math.MaxUint64} {
		for round := range 10 {
			s := graph.New()
			var parents []api.Id
			for i := range api.MaxParents {
				parents = append(parents, put(t, s, commitSaying(fmt.Sprint(round, i), nameOf(i), time)))
			}
			for _, l := range [][]api.Id{parents, reversed(parents)} {
				tip := put(t, s, commit(time, l...))
				checkLog(t, "equal Times", s, tip, append([]api.Id{tip}, plainRising(l)...)...)
			}
		}
	}
}

// P11.3: Parents that are missing, or no commits, are not told, nor what is beyond them.
func TestLogOverGaps(t *testing.T) {
	s, f := relatives(t)
	tip := put(t, s, commit(9, f.mark, f.third, nameOf(1), f.left))
	checkLog(t, "no commits for Parents", s, tip, tip, f.third, f.first)
	none := put(t, s, commit(9, f.mark, nameOf(1), f.a))
	checkLog(t, "none of them a commit", s, none, none)
	under := put(t, s, commitOf(f.both, 9))
	checkLog(t, "a commit for a tree", s, under, under)
	s.Drop(f.second)
	checkLog(t, "a Parent that was dropped", s, f.both, f.both, f.third, f.first)
	s.Drop(f.third)
	checkLog(t, "both Parents were dropped", s, f.both, f.both)
}

// P11.3: long lines with two ways at each step are gone through.
func TestLinesOfManyWays(t *testing.T) {
	s := graph.New()
	first := put(t, s, commit(0))
	left, right := first, put(t, s, commit(1))
	for i := range uint64(400) {
		left, right = put(t, s, commit(2*i+2, left, right)), put(t, s, commit(2*i+3, left, right))
	}
	tip := put(t, s, commit(0, left, right))
	checkFollows(t, "many ways", s, tip, first, true)
	checkFollows(t, "many ways", s, tip, nameOf(1), false)
	l := s.Log(tip)
	if len(l) != 803 || l[0] != tip || l[1] != right || l[802] != first || len(plainRising(l)) != 803 {
		t.Errorf("%d are told", len(l))
	}
}

// P11.3: a line far longer than others is gone through to its end.
func TestLinesOfManyCommits(t *testing.T) {
	s := graph.New()
	const n = 20000
	first := put(t, s, commit(0))
	tip := first
	for i := range uint64(n) {
		tip = put(t, s, commit(i%3, tip))
	}
	checkFollows(t, "a long line", s, tip, first, true)
	checkFollows(t, "a long line", s, first, tip, false)
	if l := s.Log(tip); len(l) != n+1 || l[0] != tip || l[n] != first {
		t.Errorf("%d are told", len(l))
	}
	if there, missing := s.Reach(tip); len(there) != n+1 || !slices.Equal(missing, []api.Id{nameOf(-1)}) {
		t.Errorf("%d are there, missing are %s", len(there), some(missing))
	}
}

// P11.3: tangles of objects, held against the chapter taken word by word.
func TestLinesInTangles(t *testing.T) {
	longest := 0
	for seed := range uint64(60) {
		r := chances(1000 + seed)
		p := tangle(r, 5+r.IntN(20))
		for range r.IntN(3) {
			p = p.without(pick(r, p.ids()))
		}
		s := setOf(t, p...)
		for _, later := range p.asked() {
			want := p.log(later)
			checkLog(t, "a tangle", s, later, want...)
			longest = max(longest, len(want))
			for _, earlier := range p.asked() {
				checkFollows(t, "a tangle", s, later, earlier, p.follows(later, earlier))
			}
		}
		checkIds(t, s, p)
	}
	if longest < 8 {
		t.Errorf("the longest of all logs has %d commits", longest)
	}
}
