package graph

import (
	"container/heap"

	"coffret/api"
	"coffret/object"
)

// met is the names that were met.
type met map[api.Id]struct{}

func (m met) has(id api.Id) bool {
	_, there := m[id]
	return there
}

// meet puts those of some names to the work that were not met before, so that each is worked on but once.
func (m met) meet(l []api.Id, put func(id api.Id)) {
	for _, id := range l {
		if !m.has(id) {
			m[id] = struct{}{}
			put(id)
		}
	}
}

// pile is names that are still to be gone into. It stands in for recursion, since objects may name one another in lines of any length.
type pile []api.Id

func (p *pile) put(id api.Id) {
	*p = append(*p, id)
}

func (p *pile) take() api.Id {
	last := len(*p) - 1
	id := (*p)[last]
	*p = (*p)[:last]
	return id
}

// reached tells some names, all that they lead to at once, and so on.
func reached(roots []api.Id, next func(id api.Id) []api.Id) met {
	known := met{}
	var work pile
	known.meet(roots, work.put)
	for len(work) > 0 {
		known.meet(next(work.take()), work.put)
	}
	return known
}

// commit is one of the set, and what Log asks of it.
type commit struct {
	id      api.Id
	time    uint64
	parents []api.Id
}

// waiting is a heap of the commits that Log has met and not told, the next one on top.
type waiting struct {
	set     *Set
	commits []commit
}

// put lays a commit in; what is none is left out.
func (w *waiting) put(id api.Id) {
	c, e := object.ChangeOf(w.set.at(id))
	if e == api.OK {
		heap.Push(w, commit{id, c.Time, c.Parents})
	}
}

func (w *waiting) Len() int {
	return len(w.commits)
}

func (w *waiting) Less(i, j int) bool {
	a, b := w.commits[i], w.commits[j]
	if a.time != b.time {
		return a.time > b.time
	}
	return Less(a.id, b.id)
}

func (w *waiting) Swap(i, j int) {
	w.commits[i], w.commits[j] = w.commits[j], w.commits[i]
}

func (w *waiting) Push(x any) {
	w.commits = append(w.commits, x.(commit))
}

func (w *waiting) Pop() any {
	last := len(w.commits) - 1
	c := w.commits[last]
	w.commits = w.commits[:last]
	return c
}
