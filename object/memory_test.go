package object_test

import (
	"bytes"
	"slices"
	"testing"

	"coffret/api"
	"coffret/object"
	"coffret/sample"
)

// withSpare is a copy of a list with known elements in its spare room.
func withSpare[T any](l []T, spare T) []T {
	return append(slices.Clone(l), spare, spare, spare)[:len(l)]
}

// Rules 4 and 8: Data that are handed in are as they were, their spare room too, whatever is asked, of objects right or wrong.
func TestDataAreNotTouched(t *testing.T) {
	for _, o := range samples() {
		for _, data := range [][]byte{o.Data, append(bytes.Clone(o.Data), 0), o.Data[:len(o.Data)/2]} {
			for kind := 0; kind <= 5; kind++ {
				x := object.Object{Kind: kind, Data: sample.Spared(data)}
				checkAsPlain(t, x)
				object.Same(x, x)
				if !sample.Untouched(x.Data, data) {
					t.Errorf("%s was %x", shown(x), sample.Some(data))
				}
			}
		}
		b := sample.Spared(object.Put(o))
		object.Read(b)
		if !sample.Untouched(b, object.Put(o)) {
			t.Errorf("%x", sample.Some(b))
		}
	}
}

// Rules 4 and 8: entries and Parents that are handed in are as they were, their spare room too, and not read beyond their length.
func TestListsAreNotTouched(t *testing.T) {
	spare := object.Entry{Name: "a/b", Id: id(77)}
	for _, l := range append(trees(), named("b", "a"), named("a", ""), entries(33)) {
		own := withSpare(l, spare)
		got, e := object.OfTree(own)
		want, wantError := object.OfTree(slices.Clip(slices.Clone(l)))
		if e != wantError || !sameObject(got, want) {
			t.Errorf("%d, %s, want %d, %s", int(e), shown(got), int(wantError), shown(want))
		}
		if !slices.Equal(own, l) || !slices.Equal(own[len(own):len(own)+3], []object.Entry{spare, spare, spare}) {
			t.Errorf("the list of %d entries was touched", len(l))
		}
	}
	for _, l := range [][]api.Id{nil, ids(1), ids(3), ids(4), ids(5), make([]api.Id, 3)} {
		own := withSpare(l, id(0))
		got, e := object.OfChange(object.Change{Parents: own})
		want, wantError := object.OfChange(object.Change{Parents: slices.Clip(slices.Clone(l))})
		if e != wantError || !sameObject(got, want) {
			t.Errorf("%d, %s, want %d, %s", int(e), shown(got), int(wantError), shown(want))
		}
		if !slices.Equal(own, l) || !slices.Equal(own[len(own):len(own)+3], []api.Id{id(0), id(0), id(0)}) {
			t.Errorf("the list of %d Parents was touched", len(l))
		}
	}
}

// Rule 4: what was handed in may be written over; what was told is as it was.
func TestNothingIsKept(t *testing.T) {
	for _, o := range samples() {
		data := bytes.Clone(o.Data)
		x := object.Object{Kind: o.Kind, Data: data}
		put, links := object.Put(x), object.Links(x)
		l, _ := object.TreeOf(x)
		c, _ := object.ChangeOf(x)
		m, _ := object.MarkOf(x)
		b := object.Put(o)
		read, _ := object.Read(b)
		sample.Overwrite(data, 0xEE)
		sample.Overwrite(b, 0xEE)
		if !bytes.Equal(put, plainPut(o)) || !slices.Equal(links, plainLinks(o)) || !sameObject(read, o) {
			t.Errorf("%s: what was put, linked or read is another", shown(o))
		}
		checkToldBefore(t, o, l, c, m)
	}
}

// checkToldBefore tells whether these are what an object is of.
func checkToldBefore(t *testing.T, o object.Object, l []object.Entry, c object.Change, m object.Mark) {
	t.Helper()
	ok := true
	switch o.Kind {
	case object.Tree:
		want, _ := plainTreeOf(o.Data)
		ok = slices.Equal(l, want)
	case object.Commit:
		want, _ := plainChangeOf(o.Data)
		ok = sameChange(c, want)
	case object.Note:
		want, _ := plainMarkOf(o.Data)
		ok = m == want
	}
	if !ok {
		t.Errorf("%s: what it is of is another", shown(o))
	}
}

// Rule 4: lists that were handed in may be written over; the objects are as they were.
func TestListsAreNotKept(t *testing.T) {
	for _, l := range trees() {
		own := slices.Clone(l)
		o, _ := object.OfTree(own)
		sample.Overwrite(own, object.Entry{Name: "overwritten"})
		if !bytes.Equal(o.Data, plainTree(l)) {
			t.Errorf("%s", shown(o))
		}
	}
	for _, c := range changes() {
		own := c
		own.Parents = slices.Clone(c.Parents)
		o, _ := object.OfChange(own)
		sample.Overwrite(own.Parents, id(99))
		if !bytes.Equal(o.Data, plainCommit(c)) {
			t.Errorf("%s", shown(o))
		}
	}
}

// Rules 4 and 5: each answer is new memory, its spare room too: what is done to one is not seen in another, nor in what was handed in.
func TestAnswersAreNewMemory(t *testing.T) {
	for _, o := range samples() {
		x := object.Object{Kind: o.Kind, Data: sample.Spared(o.Data)}
		b := sample.Spared(object.Put(o))
		for range 3 {
			sample.Overwrite(object.Put(x), 0xDD)
			sample.Overwrite(object.Links(x), id(99))
			l, _ := object.TreeOf(x)
			sample.Overwrite(l, object.Entry{Name: "overwritten"})
			c, _ := object.ChangeOf(x)
			sample.Overwrite(c.Parents, id(99))
			read, _ := object.Read(b)
			sample.Overwrite(read.Data, 0xDD)
		}
		if !sample.Untouched(x.Data, o.Data) || !sample.Untouched(b, object.Put(o)) {
			t.Errorf("%s shares memory with what is told of it", shown(o))
		}
		checkAsPlain(t, x)
	}
}

// Rules 4 and 5: objects that are made twice share nothing.
func TestMadeObjectsAreNewMemory(t *testing.T) {
	for range 2 {
		for _, l := range trees() {
			first, _ := object.OfTree(l)
			second, _ := object.OfTree(l)
			sample.Overwrite(first.Data, 0xDD)
			if !bytes.Equal(second.Data, plainTree(l)) {
				t.Errorf("%s", shown(second))
			}
		}
		for _, c := range changes() {
			first, _ := object.OfChange(c)
			second, _ := object.OfChange(c)
			sample.Overwrite(first.Data, 0xDD)
			if !bytes.Equal(second.Data, plainCommit(c)) {
				t.Errorf("%s", shown(second))
			}
		}
		for _, m := range marks() {
			first, _ := object.OfMark(m)
			second, _ := object.OfMark(m)
			sample.Overwrite(first.Data, 0xDD)
			if !bytes.Equal(second.Data, plainNote(m)) {
				t.Errorf("%s", shown(second))
			}
		}
	}
}

// Rule 8: two lists of one answer, and of two answers at a time, do not share their spare room.
func TestListsOfAnswersGrowApart(t *testing.T) {
	c, _ := object.OfChange(object.Change{Tree: id(9), Parents: ids(3)})
	told, _ := object.ChangeOf(c)
	links := object.Links(c)
	again, _ := object.ChangeOf(c)
	_ = append(told.Parents, id(50), id(51))
	_ = append(links, id(52), id(53))
	if !slices.Equal(again.Parents, ids(3)) || !slices.Equal(links[1:], ids(3)) || !slices.Equal(told.Parents, ids(3)) {
		t.Errorf("%x, %x, %x", told.Parents, links, again.Parents)
	}
}
