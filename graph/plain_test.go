package graph_test

import (
	"bytes"
	"fmt"
	"math/rand/v2"
	"slices"
	"testing"

	"coffret/api"
	"coffret/graph"
	"coffret/object"
	"coffret/sha"
)

// nameOf is a name that no object of the tests has, another for each number.
func nameOf(n int) api.Id {
	return sha.Sum([]byte{byte(n), byte(n >> 8), byte(n >> 16), byte(n >> 24)})
}

func blob(text string) object.Object {
	return object.Object{Kind: object.Blob, Data: []byte(text)}
}

// tree is one of these names, in that order.
func tree(l ...api.Id) object.Object {
	var entries []object.Entry
	for i, id := range l {
		entries = append(entries, object.Entry{Name: fmt.Sprintf("%03d", i), Dir: i%2 == 1, Id: id})
	}
	o, e := object.OfTree(entries)
	return right(o, e)
}

// commit is one of a tree that is never there.
func commit(time uint64, parents ...api.Id) object.Object {
	return commitOf(nameOf(-1), time, parents...)
}

func commitOf(tree api.Id, time uint64, parents ...api.Id) object.Object {
	return commitSaying("", tree, time, parents...)
}

func commitSaying(text string, tree api.Id, time uint64, parents ...api.Id) object.Object {
	o, e := object.OfChange(object.Change{Tree: tree, Parents: parents, Time: time, Author: "me", Text: text})
	return right(o, e)
}

func note(target api.Id) object.Object {
	o, e := object.OfMark(object.Mark{Target: target, Name: "tags/a", Text: "t"})
	return right(o, e)
}

// right is an object that a test must be able to make.
func right(o object.Object, e api.Errno) object.Object {
	if e != api.OK {
		panic(e)
	}
	return o
}

// setOf is a set of just these objects.
func setOf(t *testing.T, l ...object.Object) *graph.Set {
	t.Helper()
	s := graph.New()
	for _, o := range l {
		put(t, s, o)
	}
	return s
}

// put puts an object in that must be taken, and tells its name.
func put(t *testing.T, s *graph.Set, o object.Object) api.Id {
	t.Helper()
	id, e := s.Put(o)
	if e != api.OK || id != object.Id(o) {
		t.Fatalf("%s: %x, error %d, want %x", shown(o), id, int(e), object.Id(o))
	}
	return id
}

// unmade are sets that New did not make.
func unmade() []*graph.Set {
	return []*graph.Set{nil, {}}
}

// kinds are objects of each kind, right ones.
func kinds() []object.Object {
	a, b := blob("a"), blob("")
	return []object.Object{
		a, b,
		{Kind: object.Blob, Data: make([]byte, api.MaxObject)},
		tree(), tree(object.Id(a)), tree(object.Id(a), object.Id(b), nameOf(1), object.Id(a)),
		commit(0), commit(7, nameOf(1)), commitOf(object.Id(tree()), 7, object.Id(commit(0)), nameOf(2), nameOf(3), object.Id(a)),
		note(object.Id(a)), note(nameOf(4)),
	}
}

// wrong is an object that object.Check does not take, and its error.
type wrong struct {
	o    object.Object
	want api.Errno
}

func wrongs() []wrong {
	c := commit(7, nameOf(1))
	return []wrong{
		{object.Object{}, api.ErrArg},
		{object.Object{Kind: 0, Data: []byte("a")}, api.ErrArg},
		{object.Object{Kind: -1}, api.ErrArg},
		{object.Object{Kind: 5}, api.ErrArg},
		{object.Object{Kind: 257, Data: []byte("a")}, api.ErrArg},
		{object.Object{Kind: 5, Data: make([]byte, api.MaxObject+1)}, api.ErrArg},
		{object.Object{Kind: object.Blob, Data: make([]byte, api.MaxObject+1)}, api.ErrBig},
		{object.Object{Kind: object.Tree, Data: make([]byte, api.MaxObject+1)}, api.ErrBig},
		{object.Object{Kind: object.Tree}, api.ErrForm},
		{object.Object{Kind: object.Tree, Data: []byte{0, 1}}, api.ErrForm},
		{object.Object{Kind: object.Commit, Data: c.Data[:len(c.Data)-1]}, api.ErrForm},
		{object.Object{Kind: object.Commit, Data: append(bytes.Clone(c.Data), 0)}, api.ErrForm},
		{object.Object{Kind: object.Note, Data: c.Data}, api.ErrForm},
	}
}

func sameObject(a, b object.Object) bool {
	return a.Kind == b.Kind && bytes.Equal(a.Data, b.Data)
}

// shown is an object, short enough to be shown.
func shown(o object.Object) string {
	return fmt.Sprintf("kind %d, %d bytes %x", o.Kind, len(o.Data), o.Data[:min(len(o.Data), 100)])
}

// some are names, short enough to be shown.
func some(l []api.Id) string {
	out := fmt.Sprint(len(l))
	for _, id := range l {
		out += fmt.Sprintf(" %x", id[:3])
	}
	return out
}

// plainLess is rule 7, taken word by word.
func plainLess(a, b api.Id) bool {
	for i := range a {
		if int(a[i]) != int(b[i]) {
			return int(a[i]) < int(b[i])
		}
	}
	return false
}

// plainSet is the chapter, taken word by word: objects stand in a list.
type plainSet []object.Object

func (p plainSet) find(id api.Id) (object.Object, bool) {
	for _, o := range p {
		if object.Id(o) == id {
			return o, true
		}
	}
	return object.Object{}, false
}

func (p plainSet) with(o object.Object) plainSet {
	return append(p.without(object.Id(o)), o)
}

func (p plainSet) without(id api.Id) plainSet {
	var out plainSet
	for _, o := range p {
		if object.Id(o) != id {
			out = append(out, o)
		}
	}
	return out
}

func (p plainSet) ids() []api.Id {
	var l []api.Id
	for _, o := range p {
		l = append(l, object.Id(o))
	}
	return plainRising(l)
}

// plainRising is a list's names by their order, each once.
func plainRising(l []api.Id) []api.Id {
	var out []api.Id
	for _, id := range l {
		at := 0
		for at < len(out) && plainLess(out[at], id) {
			at++
		}
		if at == len(out) || out[at] != id {
			out = slices.Insert(out, at, id)
		}
	}
	return out
}

// change is what a commit of the set is of; false: it is none.
func (p plainSet) change(id api.Id) (object.Change, bool) {
	o, there := p.find(id)
	if !there || o.Kind != object.Commit {
		return object.Change{}, false
	}
	c, e := object.ChangeOf(o)
	return c, e == api.OK
}

// reached are the names that are, and all that an object of the set that is reached names: gone over till none is new.
func (p plainSet) reached(roots []api.Id) []api.Id {
	l := plainRising(roots)
	for {
		more := l
		for _, o := range p {
			if slices.Contains(l, object.Id(o)) {
				more = append(slices.Clip(more), object.Links(o)...)
			}
		}
		more = plainRising(more)
		if len(more) == len(l) {
			return l
		}
		l = more
	}
}

func (p plainSet) reach(roots []api.Id) (there, missing []api.Id) {
	for _, id := range p.reached(roots) {
		if _, ok := p.find(id); ok {
			there = append(there, id)
		} else {
			missing = append(missing, id)
		}
	}
	return there, missing
}

func (p plainSet) beyond(roots, others []api.Id) []api.Id {
	var out []api.Id
	there, _ := p.reach(roots)
	for _, id := range there {
		if !slices.Contains(p.reached(others), id) {
			out = append(out, id)
		}
	}
	return out
}

func (p plainSet) follows(later, earlier api.Id) bool {
	if later == earlier {
		return true
	}
	c, _ := p.change(later)
	for _, id := range c.Parents {
		if p.follows(id, earlier) {
			return true
		}
	}
	return false
}

func (p plainSet) log(tip api.Id) []api.Id {
	if _, ok := p.change(tip); !ok {
		return nil
	}
	told := []api.Id{tip}
	for {
		next, ok := p.next(told)
		if !ok {
			return told
		}
		told = append(told, next)
	}
}

// next is the one that is told behind those: of their Parents that are commits of the set and were not told, the one with the greatest Time.
func (p plainSet) next(told []api.Id) (best api.Id, ok bool) {
	var time uint64
	for _, id := range told {
		c, _ := p.change(id)
		for _, x := range c.Parents {
			y, there := p.change(x)
			if !there || slices.Contains(told, x) {
				continue
			}
			if !ok || y.Time > time || y.Time == time && plainLess(x, best) {
				best, time, ok = x, y.Time, true
			}
		}
	}
	return best, ok
}

// chances are numbers that look like chance, and are the same in each run.
func chances(seed uint64) *rand.Rand {
	return rand.New(rand.NewPCG(seed, 11))
}

// pick is one of a list, or now and then a name that no object has.
func pick(r *rand.Rand, l []api.Id) api.Id {
	if len(l) == 0 || r.IntN(12) == 0 {
		return nameOf(r.IntN(5))
	}
	return l[r.IntN(len(l))]
}

// picks are up to n names of a list, each once or, where twice says so, now and then twice.
func picks(r *rand.Rand, l []api.Id, n int, twice bool) []api.Id {
	var out []api.Id
	for range r.IntN(n + 1) {
		if id := pick(r, l); twice || !slices.Contains(out, id) {
			out = append(out, id)
		}
	}
	return out
}

// tangle is n objects of all kinds that name one another, and now and then what is not there. Times are few, so that some are equal.
func tangle(r *rand.Rand, n int) plainSet {
	var p plainSet
	var all, commits []api.Id
	for i := range n {
		var o object.Object
		switch r.IntN(8) {
		case 0:
			o = blob(fmt.Sprint(i))
		case 1, 2:
			o = tree(picks(r, all, 5, true)...)
		case 3:
			o = note(pick(r, all))
		default:
			from := commits
			if r.IntN(5) == 0 {
				from = all // a Parent that may be no commit
			}
			o = commitOf(pick(r, all), uint64(r.IntN(6)), picks(r, from, api.MaxParents, false)...)
			commits = append(commits, object.Id(o))
		}
		p = p.with(o)
		all = append(all, object.Id(o))
	}
	return p
}

// asked are the names that a test asks a tangle for: all that are there, and some that are not.
func (p plainSet) asked() []api.Id {
	return append(p.ids(), api.Id{}, nameOf(0), nameOf(1), nameOf(-1))
}
