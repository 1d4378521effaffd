package pack_test

import (
	"bytes"
	"slices"
	"testing"

	"coffret/api"
	"coffret/object"
	"coffret/pack"
	"coffret/sample"
)

// owned is a copy of a list and of its objects' Data, all with known items in their spare room.
func owned(l []object.Object) []object.Object {
	var out []object.Object
	for _, o := range append(slices.Clone(l), blob("spare"), blob("spare")) {
		out = append(out, object.Object{Kind: o.Kind, Data: sample.Spared(o.Data)})
	}
	return out[:len(l)]
}

// checkOwned tells whether what owned made of a list is as it was, its spare room too.
func checkOwned(t *testing.T, own, l []object.Object) {
	t.Helper()
	for i, o := range append(slices.Clone(l), blob("spare"), blob("spare")) {
		if x := own[:len(l)+2][i]; x.Kind != o.Kind || !sample.Untouched(x.Data, o.Data) {
			t.Errorf("%s: the object %d was touched", some(l), i)
		}
	}
}

// lists are those that Put takes, and those that it refuses.
func lists() [][]object.Object {
	all := [][]object.Object{nil, few(), reversed(few()), kinds(), many(256), many(257), append(few(), few()...)}
	for _, x := range wrongs() {
		all = append(all, []object.Object{x.o}, append(few(), x.o))
	}
	return all
}

// Rules 4 and 8: objects that are handed in are as they were, in their order, their spare room too, and not read beyond their lengths.
func TestObjectsAreNotTouched(t *testing.T) {
	for _, l := range lists() {
		own := owned(l)
		b, e := pack.Put(own)
		n := pack.Length(own)
		checkOwned(t, own, l)
		want, wantError := plainPut(l)
		if e != wantError || !bytes.Equal(b, want) || e == api.OK && n != len(want) {
			t.Errorf("%s: %s, error %d, Length %d, want %s, error %d", some(l), shown(b), int(e), n, shown(want), int(wantError))
		}
	}
}

// Rule 4: a pack stays when the objects that it was made of are written over, and they when it is.
func TestPacksAreNewMemory(t *testing.T) {
	for _, l := range [][]object.Object{nil, few()[:1], few(), kinds(), many(256)} {
		own := owned(l)
		first, second := packed(t, own), packed(t, own)
		want := bytes.Clone(second)
		_ = append(first, 0xDD)
		sample.Overwrite(first, 0xDD)
		checkOwned(t, own, l)
		if !bytes.Equal(second, want) || !bytes.Equal(packed(t, l), want) {
			t.Errorf("%s: two packs share memory", some(l))
		}
		for _, o := range own {
			sample.Overwrite(o.Data, 0xDD)
		}
		sample.Overwrite(own, object.Object{Kind: 9})
		if !bytes.Equal(second, want) {
			t.Errorf("%s: the pack shares memory with what it was made of", some(l))
		}
	}
}

// texts are packs, and bytes that are none.
func texts(t *testing.T) [][]byte {
	var all [][]byte
	for _, l := range [][]object.Object{nil, few(), kinds(), many(256)} {
		b := packed(t, l)
		all = append(all, b, b[:len(b)/2], b[:len(b)-1], append(bytes.Clone(b), 1), sample.Turned(b, 40), sample.Turned(b, 47))
	}
	return append(all, nil, laid(2, blob("a"), blob("a")), laid(1, object.Object{Kind: 9}))
}

// Rules 4 and 8: a pack that is handed in is as it was, its spare room too, and not read beyond its length.
func TestBytesAreNotTouched(t *testing.T) {
	id := object.Id(blob("a"))
	for _, b := range texts(t) {
		own := sample.Spared(b)
		checkAsPlain(t, "with spare room", own)
		pack.Find(own, id)
		if !sample.Untouched(own, b) {
			t.Errorf("%s were touched", shown(b))
		}
	}
	// The bytes that are missing lie in the spare room.
	b := packed(t, few())
	for n := range b {
		checkNoPack(t, "with the rest behind it", bytes.Clone(b)[:n])
	}
}

// Rule 4: what is told of a pack stays when the pack is written over, and the pack when that is.
func TestAnswersAreNewMemory(t *testing.T) {
	for _, l := range [][]object.Object{few()[:1], few(), kinds(), many(256)} {
		want := plainRising(l)
		b := packed(t, l)
		own := sample.Spared(b)
		for range 3 {
			read, _ := pack.Read(own)
			for i := range read {
				_ = append(read[i].Data, 0xDD)
				sample.Overwrite(read[i].Data, 0xDD)
			}
			sample.Overwrite(read, object.Object{Kind: 9})
			index, _ := pack.Index(own)
			sample.Overwrite(index, pack.Place{At: -1})
			found, _ := pack.Find(own, object.Id(l[0]))
			sample.Overwrite(found.Data, 0xDD)
		}
		if !sample.Untouched(own, b) {
			t.Errorf("%s: the pack shares memory with what is told of it", some(l))
		}
		checkPack(t, "written over", own, want)

		read, _ := pack.Read(own)
		index, _ := pack.Index(own)
		found, _ := pack.Find(own, object.Id(l[0]))
		sample.Overwrite(own, 0xDD)
		if !sameObjects(read, want) || !slices.Equal(index, plainIndex(want)) || !sameObject(found, l[0]) {
			t.Errorf("%s: what is told shares memory with the pack", some(l))
		}
	}
}

// Rule 4: the Data of the objects of one answer share nothing, in their spare room neither.
func TestObjectsOfAnAnswerShareNothing(t *testing.T) {
	want := plainRising(kinds())
	b := packed(t, kinds())
	for at := range want {
		l, _ := pack.Read(b)
		sample.Overwrite(append(l[at].Data, 0xDD, 0xDD, 0xDD, 0xDD, 0xDD, 0xDD), 0xDD)
		sample.Overwrite(l[at].Data, 0xDD)
		for i, o := range l {
			if i != at && !sameObject(o, want[i]) {
				t.Errorf("the objects %d and %d share memory", at, i)
			}
		}
	}
}

// Rule 8: nothing of what was handed in, or of what stands beside it in the pack, lies in an answer's spare room.
func TestNothingIsHandedOutBehind(t *testing.T) {
	l := few()
	own := sample.Spared(packed(t, owned(l)))
	read, _ := pack.Read(own)
	found, _ := pack.Find(own, object.Id(l[0]))
	for _, b := range append([][]byte{packed(t, owned(l)), found.Data}, dataOf(read)...) {
		if behind := b[len(b):cap(b)]; bytes.Count(behind, []byte{0}) != len(behind) {
			t.Errorf("behind %s lies %x", shown(b), behind)
		}
	}
	for _, o := range read[len(read):cap(read)] {
		if o.Kind != 0 || o.Data != nil {
			t.Errorf("behind the objects lies %s", some([]object.Object{o}))
		}
	}
	index, _ := pack.Index(own)
	for _, p := range index[len(index):cap(index)] {
		if p != (pack.Place{}) {
			t.Errorf("behind the places lies %v", p)
		}
	}
}

func dataOf(l []object.Object) [][]byte {
	var out [][]byte
	for _, o := range l {
		out = append(out, o.Data)
	}
	return out
}

// Rule 5: asked again, the same is told.
func TestAskedAgain(t *testing.T) {
	want := packed(t, many(64))
	for range 20 {
		if b := packed(t, many(64)); !bytes.Equal(b, want) {
			t.Errorf("%s, want %s", shown(b), shown(want))
		}
		checkPack(t, "again", want, plainRising(many(64)))
		checkNoPack(t, "again", want[1:])
		checkNoPut(t, "again", append(few(), few()...), api.ErrThere)
	}
}
