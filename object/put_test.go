package object_test

import (
	"bytes"
	"slices"
	"testing"

	"coffret/api"
	"coffret/object"
	"coffret/sample"
)

// The chapter's example 1.
func TestPutExample(t *testing.T) {
	if got := object.Put(object.Object{Kind: object.Blob, Data: []byte("ab")}); string(got) != "\x01\x00\x00\x00\x02ab" {
		t.Errorf("%x", got)
	}
}

// P10.4: Put of any Kind, modulo 256, and of any Data, right or wrong, more than may be too.
func TestPutOfAny(t *testing.T) {
	for kind, want := range map[int]byte{0: 0, 1: 1, 4: 4, 5: 5, 255: 255, 256: 0, 257: 1, 260: 4, 511: 255, 512: 0, -1: 255, -2: 254, -252: 4, -255: 1, -256: 0, -257: 255} {
		got := object.Put(object.Object{Kind: kind, Data: []byte("x")})
		if !bytes.Equal(got, []byte{want, 0, 0, 0, 1, 'x'}) {
			t.Errorf("kind %d: %x", kind, got)
		}
	}
	for _, kind := range kinds() {
		for _, n := range []int{0, 1, 255, 256, 257, api.MaxObject, api.MaxObject + 1, api.MaxSized, api.MaxSized + 1, 1 << 18} {
			checkAsPlain(t, object.Object{Kind: kind, Data: sample.Text(n)})
		}
	}
}

// P10.4, P10.5: what is put is read as it was.
func TestReadOfWhatWasPut(t *testing.T) {
	for _, o := range samples() {
		got, e := object.Read(object.Put(o))
		if e != api.OK || !sameObject(got, o) || !object.Same(got, o) {
			t.Errorf("%s: %d, %s", shown(o), int(e), shown(got))
		}
	}
	for _, n := range []int{api.MaxObject - 1, api.MaxObject} {
		o := object.Object{Kind: object.Blob, Data: sample.Text(n)}
		if got, e := object.Read(object.Put(o)); e != api.OK || !sameObject(got, o) {
			t.Errorf("%d bytes: %d", n, int(e))
		}
	}
}

// checkNotRead tells whether there is no object of bytes, and nothing is told beside that.
func checkNotRead(t *testing.T, b []byte) {
	t.Helper()
	if o, e := object.Read(b); e != api.ErrForm || o.Kind != 0 || len(o.Data) != 0 {
		t.Errorf("Read of %d bytes, %x: %d, %s", len(b), sample.Some(b), int(e), shown(o))
	}
}

// P10.4: of each beginning of what was put, and of it with bytes behind it.
func TestReadOfBytesCutAndLonger(t *testing.T) {
	checkNotRead(t, nil)
	checkNotRead(t, []byte{})
	for _, o := range samples() {
		b := object.Put(o)
		for n := range b {
			checkNotRead(t, b[:n])
		}
		for _, more := range [][]byte{{0}, {1}, {255}, {0, 0, 0, 0, 0}, b} {
			checkNotRead(t, slices.Concat(b, more))
		}
	}
}

// P10.4: of a length that is another, by little, by much, and beyond any text.
func TestReadOfAnotherLength(t *testing.T) {
	for _, o := range samples() {
		n := uint64(len(o.Data))
		for _, other := range []uint64{n + 1, n - 1, n + 256, n + 1<<16, n + 1<<24, api.MaxObject, api.MaxObject + 1, api.MaxSized, api.MaxSized + 1, 1<<31 - 1, 1 << 31, 1<<32 - 1} {
			checkNotRead(t, slices.Concat([]byte{byte(o.Kind)}, number(other, 4), o.Data))
		}
	}
}

// P10.4: of Kinds that are none, and of each byte ahead.
func TestReadOfKinds(t *testing.T) {
	for _, o := range samples() {
		for kind := range 256 {
			b := append([]byte{byte(kind)}, sized(string(o.Data))...)
			if kind < 1 || kind > 4 {
				checkNotRead(t, b)
			}
			checkRead(t, b)
		}
	}
}

// P10.4: of a Kind modulo 256 it is that Kind which is read.
func TestReadOfAKindModulo(t *testing.T) {
	o := object.Object{Kind: 256 + object.Blob, Data: []byte("ab")}
	got, e := object.Read(object.Put(o))
	if e != api.OK || got.Kind != object.Blob || string(got.Data) != "ab" {
		t.Errorf("%d, %s", int(e), shown(got))
	}
}

// P10.4: of objects that Check does not take: too many Data, and malformed ones.
func TestReadOfWhatCheckRefuses(t *testing.T) {
	for kind := 1; kind <= 4; kind++ {
		for _, n := range []int{api.MaxObject + 1, api.MaxObject + 2, api.MaxSized - 1, api.MaxSized, api.MaxSized + 1, 1 << 17} {
			for _, data := range [][]byte{make([]byte, n), sample.Text(n)} {
				checkNotRead(t, object.Put(object.Object{Kind: kind, Data: data}))
			}
		}
	}
	for _, o := range samples() {
		if o.Kind == object.Blob {
			continue
		}
		checkNotRead(t, object.Put(object.Object{Kind: o.Kind, Data: nil}))
		checkNotRead(t, object.Put(object.Object{Kind: o.Kind, Data: o.Data[1:]}))
		checkNotRead(t, object.Put(object.Object{Kind: o.Kind, Data: append(bytes.Clone(o.Data), 0)}))
	}
	checkNotRead(t, object.Put(object.Object{Kind: object.Tree, Data: plainTree(named("b", "a"))}))
	checkNotRead(t, object.Put(object.Object{Kind: object.Tree, Data: plainTree(entries(33))}))
	checkNotRead(t, object.Put(object.Object{Kind: object.Commit, Data: plainCommit(object.Change{Parents: make([]api.Id, 2)})}))
	checkNotRead(t, object.Put(object.Object{Kind: object.Note, Data: plainNote(object.Mark{Name: "heads/a"})}))
}

// P10.4: Same of each sample and each.
func TestSameOfEachAndEach(t *testing.T) {
	l := samples()
	for i, a := range l {
		for j, b := range l {
			b.Data = bytes.Clone(b.Data)
			if object.Same(a, b) != (i == j) {
				t.Errorf("%s and %s: %v", shown(a), shown(b), object.Same(a, b))
			}
		}
	}
}

// P10.4: Same of the same Data and of other Kinds, also of Kinds that are none, and modulo 256 the same.
func TestSameOfKinds(t *testing.T) {
	for _, data := range [][]byte{nil, []byte("a"), plainTree(nil)} {
		for _, a := range kinds() {
			for _, b := range kinds() {
				if got := object.Same(object.Object{Kind: a, Data: data}, object.Object{Kind: b, Data: bytes.Clone(data)}); got != (a == b) {
					t.Errorf("kinds %d and %d: %v", a, b, got)
				}
			}
		}
	}
}

// P10.4: Same of Data of which one bit is another, or that are longer or shorter at one of their ends; none is the same as nil.
func TestSameOfData(t *testing.T) {
	for _, n := range []int{1, 2, 33, 300} {
		a := object.Object{Kind: object.Blob, Data: sample.Text(n)}
		others := [][]byte{nil, {}, a.Data[:n-1], a.Data[1:], sample.With(a.Data, n, 0), sample.With(a.Data, 0, 0)}
		for i := range 8 * n {
			others = append(others, sample.Turned(a.Data, i))
		}
		for _, data := range others {
			b := object.Object{Kind: object.Blob, Data: data}
			if object.Same(a, b) || object.Same(b, a) {
				t.Errorf("%s and %s are the same", shown(a), shown(b))
			}
		}
	}
	for _, a := range [][]byte{nil, {}, sample.Text(3)[:0]} {
		for _, b := range [][]byte{nil, {}, sample.Text(3)[:0]} {
			if !object.Same(object.Object{Kind: object.Blob, Data: a}, object.Object{Kind: object.Blob, Data: b}) {
				t.Error("none is not none")
			}
		}
	}
	long := object.Object{Kind: 9, Data: sample.Text(1 << 17)}
	if !object.Same(long, object.Object{Kind: 9, Data: sample.Text(1 << 17)}) {
		t.Error("long ones are not the same")
	}
}

// P10.5: what is told of an object is laid to the same Data again, and unlike things to unlike ones.
func TestEachHasOneForm(t *testing.T) {
	seen := map[string]string{}
	for _, o := range samples() {
		var again object.Object
		switch o.Kind {
		case object.Blob:
			again = o
		case object.Tree:
			l, _ := object.TreeOf(o)
			again, _ = object.OfTree(l)
		case object.Commit:
			c, _ := object.ChangeOf(o)
			again, _ = object.OfChange(c)
		case object.Note:
			m, _ := object.MarkOf(o)
			again, _ = object.OfMark(m)
		}
		if !sameObject(again, o) {
			t.Errorf("%s is laid again to %s", shown(o), shown(again))
		}
		put := string(object.Put(again))
		if was, ok := seen[put]; ok {
			t.Errorf("%s and %s have one form", was, shown(o))
		}
		seen[put] = shown(o)
	}
}

// P10.5: things that differ in one place alone are laid to other Data.
func TestUnlikeThingsAreLaidUnlike(t *testing.T) {
	var all []object.Object
	of := func(o object.Object, e api.Errno) {
		if e != api.OK {
			t.Errorf("%d", int(e))
		}
		all = append(all, o)
	}
	for _, c := range []object.Change{
		{}, {Tree: api.Id{1}}, {Parents: []api.Id{{}}}, {Parents: []api.Id{{1}}}, {Parents: []api.Id{{1}, {}}}, {Parents: []api.Id{{}, {1}}},
		{Time: 1}, {Time: 1 << 63}, {Author: "a"}, {Text: "a"}, {Author: "a", Text: "a"}, {Author: "aa"}, {Text: "aa"}, {Author: "\x00"}, {Text: "\x00"}, {Author: "\x00\x00\x00\x00"},
	} {
		of(object.OfChange(c))
	}
	for _, l := range [][]object.Entry{
		nil, {{Name: "a"}}, {{Name: "b"}}, {{Name: "a", Dir: true}}, {{Name: "a", Id: api.Id{1}}}, {{Name: "aa"}}, {{Name: "a"}, {Name: "b"}}, {{Name: "a"}, {Name: "b", Dir: true}}, {{Name: "a", Dir: true}, {Name: "b"}},
	} {
		of(object.OfTree(l))
	}
	for _, m := range []object.Mark{{Name: "tags/a"}, {Name: "tags/b"}, {Name: "tags/a", Target: api.Id{1}}, {Name: "tags/a", Text: "a"}, {Name: "tags/aa"}, {Name: "tags/a", Text: "\x00"}} {
		of(object.OfMark(m))
	}
	for i, a := range all {
		for _, b := range all[:i] {
			if object.Same(a, b) || object.Id(a) == object.Id(b) {
				t.Errorf("%s and %s are the same", shown(a), shown(b))
			}
		}
	}
}
