package object_test

import (
	"bytes"
	"math/rand/v2"
	"slices"
	"strings"
	"testing"

	"coffret/api"
	"coffret/object"
	"coffret/sample"
)

// P10.2: the samples are objects, and of what they were laid of.
func TestToldOfSamples(t *testing.T) {
	for _, o := range samples() {
		if e := object.Check(o); e != api.OK {
			t.Errorf("%s: %d", shown(o), int(e))
		}
		checkAsPlain(t, o)
	}
}

// P10.2: of another Kind, whatever the Data, nothing is told.
func TestToldOfAnotherKind(t *testing.T) {
	for _, o := range append(samples(), object.Object{}, object.Object{Data: make([]byte, api.MaxObject+1)}) {
		for _, kind := range kinds() {
			x := object.Object{Kind: kind, Data: o.Data}
			tree, change, mark := asked(x)
			if kind != 2 && tree != api.ErrArg || kind != 3 && change != api.ErrArg || kind != 4 && mark != api.ErrArg {
				t.Errorf("%s: %d, %d, %d", shown(x), int(tree), int(change), int(mark))
			}
			checkAsPlain(t, x)
		}
	}
}

// P10.2: Data that end too early at each place, that have more bytes, or fewer at their beginning.
func TestToldOfDataCutAndLonger(t *testing.T) {
	for _, o := range samples() {
		if o.Kind == object.Blob {
			continue
		}
		for n := range o.Data {
			checkMalformed(t, object.Object{Kind: o.Kind, Data: o.Data[:n]})
		}
		for _, more := range [][]byte{{0}, {1}, {255}, {0, 0, 0, 0}, make([]byte, 32), make([]byte, 37), o.Data} {
			checkMalformed(t, object.Object{Kind: o.Kind, Data: slices.Concat(o.Data, more)})
		}
		checkMalformed(t, object.Object{Kind: o.Kind, Data: nil})
		checkMalformed(t, object.Object{Kind: o.Kind, Data: []byte{}})
	}
}

// P10.2: any byte of the Data changed, missing, or one more there, is told as the chapter says, word by word.
func TestToldOfDataChanged(t *testing.T) {
	for _, o := range samples() {
		for at := range min(len(o.Data), 400) {
			for _, data := range [][]byte{
				sample.Turned(o.Data, 8*at), sample.Turned(o.Data, 8*at+7), sample.Without(o.Data, at),
				sample.With(o.Data, at, 0), sample.With(o.Data, at, 1), sample.With(o.Data, at, o.Data[at]),
			} {
				checkAsPlain(t, object.Object{Kind: o.Kind, Data: data})
			}
		}
	}
}

// P10.2: each count of entries but the right one.
func TestTreeOfAnotherCount(t *testing.T) {
	for _, n := range []int{0, 1, 2, 5, 31, 32} {
		data := plainTree(entries(n))
		for count := range 1 << 16 {
			if count == n || count > 300 && count%251 > 0 && count < 65530 {
				continue
			}
			checkMalformed(t, object.Object{Kind: object.Tree, Data: append(number(uint64(count), 2), data[2:]...)})
		}
	}
}

// P10.2: a count with as many entries behind it, where these are more than may be.
func TestTreeOfTooManyEntries(t *testing.T) {
	for n := range 160 {
		o := object.Object{Kind: object.Tree, Data: plainTree(entries(n))}
		if n > api.MaxEntries {
			checkMalformed(t, o)
			continue
		}
		if l, e := object.TreeOf(o); e != api.OK || !slices.Equal(l, entries(n)) {
			t.Errorf("%d entries: %d", n, int(e))
		}
	}
}

// P10.2: each byte where Dir stands.
func TestTreeOfDirBytes(t *testing.T) {
	data := plainTree(named("a", "b"))
	for _, at := range []int{2, 2 + 38} {
		for x := range 256 {
			other := bytes.Clone(data)
			other[at] = byte(x)
			o := object.Object{Kind: object.Tree, Data: other}
			if x > 1 {
				checkMalformed(t, o)
				continue
			}
			if l, e := object.TreeOf(o); e != api.OK || l[at/38].Dir != (x == 1) {
				t.Errorf("byte %d: %d, %#v", x, int(e), l)
			}
		}
	}
}

// P10.2: lengths of names that are others: beyond the end, beyond any text, and such that other bytes are read as Ids.
func TestTreeOfLengths(t *testing.T) {
	data := plainTree(named("abc"))
	for _, n := range []uint64{0, 1, 2, 4, 35, 36, 64, 65, 255, 256, 1<<16 - 1, 1 << 16, 1<<16 + 3, 1<<24 + 3, 1<<31 - 1, 1 << 31, 1<<32 - 1} {
		checkMalformed(t, object.Object{Kind: object.Tree, Data: slices.Concat(data[:3], number(n, 4), data[7:])})
	}
}

// P10.2: lengths of Authors, Names and Texts that are others.
func TestLengthsOfTexts(t *testing.T) {
	commit := plainCommit(object.Change{Parents: ids(1), Author: "abc", Text: "abc"})
	note := plainNote(object.Mark{Name: "tags/a", Text: "abc"})
	for _, n := range []uint64{0, 1, 2, 4, 5, 8, 10, 11, 64, 255, 256, 1<<16 - 1, 1 << 16, 1<<16 + 3, 1<<16 + 6, 1<<24 + 3, 1<<31 - 1, 1 << 31, 1<<32 - 1} {
		for _, at := range []int{32 + 1 + 32 + 8, 32 + 1 + 32 + 8 + 4 + 3} {
			checkMalformed(t, object.Object{Kind: object.Commit, Data: slices.Concat(commit[:at], number(n, 4), commit[at+4:])})
		}
		for _, at := range []int{32, 32 + 4 + 6} {
			checkMalformed(t, object.Object{Kind: object.Note, Data: slices.Concat(note[:at], number(n, 4), note[at+4:])})
		}
	}
}

// P10.2: each count of Parents but the right one; and more Parents than may be, with their count.
func TestChangeOfAnotherCount(t *testing.T) {
	for n := range api.MaxParents + 1 {
		data := plainCommit(object.Change{Tree: id(8), Parents: ids(n), Time: 1 << 63, Author: "me", Text: "why"})
		for count := range 256 {
			if count != n {
				other := bytes.Clone(data)
				other[32] = byte(count)
				checkMalformed(t, object.Object{Kind: object.Commit, Data: other})
			}
		}
	}
	for n := range 256 {
		o := object.Object{Kind: object.Commit, Data: plainCommit(object.Change{Parents: ids(n)})}
		if n > api.MaxParents {
			checkMalformed(t, o)
			continue
		}
		if c, e := object.ChangeOf(o); e != api.OK || !slices.Equal(c.Parents, ids(n)) {
			t.Errorf("%d Parents: %d", n, int(e))
		}
	}
}

// P10.2: Data of just MaxObject bytes are told; one more is no object: ErrForm where it is asked what it is of, ErrBig by Check.
func TestToldAboutMaxObject(t *testing.T) {
	for n := api.MaxObject - 3; n <= api.MaxObject+3; n++ {
		c := object.Change{Tree: id(1), Parents: ids(2), Text: filled(n - 32 - 1 - 64 - 8 - 8)}
		m := object.Mark{Target: id(1), Name: "tags/a", Text: filled(n - 32 - 10 - 4)}
		for _, o := range []object.Object{{Kind: 1, Data: sample.Text(n)}, {Kind: 2, Data: make([]byte, n)}, {Kind: 3, Data: plainCommit(c)}, {Kind: 4, Data: plainNote(m)}} {
			want := api.OK
			if o.Kind == object.Tree {
				want = api.ErrForm
			}
			if n > api.MaxObject {
				want = api.ErrBig
			}
			if e := object.Check(o); e != want || len(o.Data) != n {
				t.Errorf("%s: %d, want %d", shown(o), int(e), int(want))
			}
			checkAsPlain(t, o)
		}
	}
}

// P10.2: Check of Kinds below and above those that there are, whatever the Data, too many of them too.
func TestCheckKinds(t *testing.T) {
	for _, kind := range kinds() {
		for _, n := range []int{0, 2, 49, api.MaxObject, api.MaxObject + 1, 1 << 20} {
			e := object.Check(object.Object{Kind: kind, Data: make([]byte, n)})
			if there := 1 <= kind && kind <= 4; there == (e == api.ErrArg) {
				t.Errorf("kind %d, %d bytes: %d", kind, n, int(e))
			}
		}
	}
	if e := object.Check(object.Object{}); e != api.ErrArg {
		t.Errorf("a plain one: %d", int(e))
	}
}

// P10.2: Check tells too many Data of each Kind, though they be malformed too, and of a Blob nothing else.
func TestCheckTooManyData(t *testing.T) {
	for kind := object.Blob; kind <= object.Note; kind++ {
		for _, n := range []int{api.MaxObject + 1, api.MaxObject + 2, api.MaxSized, api.MaxSized + 1, 1 << 20} {
			for _, data := range [][]byte{make([]byte, n), sample.Text(n), sample.Ones(n)} {
				if e := object.Check(object.Object{Kind: kind, Data: data}); e != api.ErrBig {
					t.Errorf("kind %d, %d bytes: %d", kind, n, int(e))
				}
			}
		}
	}
	for _, n := range []int{0, 1, 2, 49, 1000, api.MaxObject - 1, api.MaxObject} {
		for _, data := range [][]byte{make([]byte, n), sample.Text(n), sample.Ones(n)} {
			if e := object.Check(object.Object{Kind: object.Blob, Data: data}); e != api.OK {
				t.Errorf("a Blob of %d bytes: %d", n, int(e))
			}
		}
	}
	if e := object.Check(object.Object{Kind: object.Blob}); e != api.OK {
		t.Errorf("a Blob of none: %d", int(e))
	}
}

// P10.2: Data of one kind are not those of another.
func TestCheckOfOthersData(t *testing.T) {
	for _, o := range samples() {
		for kind := object.Tree; kind <= object.Note; kind++ {
			if kind == o.Kind || o.Kind == object.Blob {
				continue
			}
			checkMalformed(t, object.Object{Kind: kind, Data: o.Data})
		}
	}
}

// P10.2: a tree whose bytes are read as others where a length is another: the same bytes are told as they stand, or not at all.
func TestTreeOfBytesWithinNames(t *testing.T) {
	inner := string(plainTree(named("a"))[2:])
	name := "x" + strings.ReplaceAll(inner, "\x00", "\x01")
	checkTree(t, named(name[:min(len(name), 64)], "y"))
	checkMalformed(t, object.Object{Kind: object.Tree, Data: plainTree(named("x" + inner))})
}

// drawn is an object of random bytes that is nearly one.
func drawn(r *rand.Rand) object.Object {
	texts := []string{"", "a", "b", "c", ".", "a/b", "tags/a", "heads/a", "tags/", "\x00", strings.Repeat("x", 64), strings.Repeat("x", 65)}
	text := func() string { return texts[r.IntN(len(texts))] }
	o := object.Object{Kind: 2 + r.IntN(3)}
	switch o.Kind {
	case object.Tree:
		l := make([]object.Entry, r.IntN(4))
		for i := range l {
			l[i] = object.Entry{Name: text(), Dir: r.IntN(2) == 0, Id: id(r.IntN(3))}
		}
		o.Data = plainTree(l)
	case object.Commit:
		c := object.Change{Tree: id(r.IntN(3)), Time: r.Uint64(), Author: text(), Text: text()}
		for range r.IntN(6) {
			c.Parents = append(c.Parents, id(r.IntN(9)))
		}
		o.Data = plainCommit(c)
	case object.Note:
		o.Data = plainNote(object.Mark{Target: id(r.IntN(3)), Name: text(), Text: text()})
	}
	return o
}

// P10.2 to P10.4: many objects that are nearly right, held against the chapter taken word by word.
func TestToldAsThePlainOnes(t *testing.T) {
	r := rand.New(rand.NewPCG(10, 10))
	good := map[int]int{}
	for range 20000 {
		o := drawn(r)
		for range r.IntN(3) {
			if len(o.Data) > 0 {
				at := r.IntN(len(o.Data))
				o.Data = [][]byte{sample.Without(o.Data, at), sample.With(o.Data, at, byte(r.IntN(3))), sample.Turned(o.Data, 8*at+r.IntN(8)), o.Data[:at]}[r.IntN(4)]
			}
		}
		checkAsPlain(t, o)
		if object.Check(o) == api.OK {
			good[o.Kind]++
		}
	}
	for kind := object.Tree; kind <= object.Note; kind++ {
		if good[kind] < 100 {
			t.Errorf("just %d of kind %d were right", good[kind], kind)
		}
	}
}
