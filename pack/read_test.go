package pack_test

import (
	"bytes"
	"fmt"
	"math/rand/v2"
	"slices"
	"testing"

	"coffret/api"
	"coffret/object"
	"coffret/pack"
	"coffret/sample"
)

// chosen is objects to draw from: right ones, and wrong ones.
type chosen struct {
	right []object.Object
	wrong []wrong
}

func toDraw() chosen {
	return chosen{slices.Concat(few(), many(40)), wrongs()}
}

// drawn is objects by chance, most of them right ones.
func (c chosen) drawn(r *rand.Rand) []object.Object {
	var l []object.Object
	for range r.IntN(9) {
		l = append(l, c.right[r.IntN(len(c.right))])
	}
	if r.IntN(4) == 0 {
		l = slices.Insert(l, r.IntN(len(l)+1), c.wrong[r.IntN(len(c.wrong))].o)
	}
	return l
}

// P13.2: a pack of no objects has nothing in it.
func TestReadOfNone(t *testing.T) {
	b := []byte("CPK1\x00\x00")
	checkPack(t, "no objects", b, nil)
	checkNotFound(t, "no objects", b, object.Id(blob("")), api.ErrNone)
}

// P13.2, P13.3: the objects that a pack was made of, by rising names, their places, and each by its name.
func TestReadWhatWasPut(t *testing.T) {
	for _, l := range [][]object.Object{few(), reversed(few()), kinds(), reversed(kinds()), many(1), many(2), many(17), many(255), many(256)} {
		checkPack(t, "put", packed(t, l), plainRising(l))
	}
}

// P13.2: the places of a pack's objects, with their numbers.
func TestIndex(t *testing.T) {
	// The names begin with 44 22 (the blob "ab"), 95 7b (the empty one) and 01 61 (the tree).
	b := packed(t, []object.Object{blob("ab"), blob(""), tree()})
	want := []pack.Place{{Id: object.Id(tree()), At: 6, Len: 7}, {Id: object.Id(blob("ab")), At: 13, Len: 7}, {Id: object.Id(blob("")), At: 20, Len: 5}}
	if l, e := pack.Index(b); e != api.OK || !slices.Equal(l, want) {
		t.Errorf("%v, error %d", l, int(e))
	}
}

// P13.2: what stands at a place is the object's bytes, and the places lie one behind the other up to the end.
func TestIndexCoversThePack(t *testing.T) {
	for _, l := range [][]object.Object{nil, few(), kinds(), many(256)} {
		b := packed(t, l)
		index, _ := pack.Index(b)
		want := plainRising(l)
		at := 6
		for i, p := range index {
			if p.At != at || p.Id != object.Id(want[i]) {
				t.Fatalf("%s: the place %d is %v, and begins at %d", some(l), i, p, at)
			}
			o, e := object.Read(b[p.At : p.At+p.Len])
			if e != api.OK || object.Id(o) != p.Id {
				t.Errorf("%s: at the place %v is %s, error %d", some(l), p, some([]object.Object{o}), int(e))
			}
			at += p.Len
		}
		if at != len(b) || len(index) != len(l) {
			t.Errorf("%s: %d places, up to %d of %d bytes", some(l), len(index), at, len(b))
		}
	}
}

// P13.2: each name that is there, and names that none has: near ones, and those of objects of other packs.
func TestFind(t *testing.T) {
	l := many(20)
	b := packed(t, l)
	for _, o := range l {
		id := object.Id(o)
		if got, e := pack.Find(b, id); e != api.OK || !object.Same(got, o) {
			t.Errorf("%s, error %d, want %s", some([]object.Object{got}), int(e), some([]object.Object{o}))
		}
		for _, at := range []int{0, 7, 100, 248, 255} {
			checkNotFound(t, "another bit", b, api.Id(sample.Turned(id[:], at)), api.ErrNone)
		}
	}
	for _, o := range append(many(30)[20:], few()...) {
		checkNotFound(t, "of another pack", b, object.Id(o), api.ErrNone)
	}
	for _, o := range few() {
		checkNotFound(t, "one left out", packed(t, slices.DeleteFunc(few(), func(x object.Object) bool { return sameObject(x, o) })), object.Id(o), api.ErrNone)
	}
}

// P13.2: no bytes, and such as are no pack at all.
func TestReadOfNoPack(t *testing.T) {
	for _, b := range [][]byte{nil, {}, {0}, make([]byte, 6), make([]byte, 100), sample.Ones(6), sample.Text(1000), []byte("CPK1"), []byte("CPK2\x00\x00"), []byte("cpk1\x00\x00"), []byte("1KPC\x00\x00"), object.Put(blob("a")), laid(0)[1:], append([]byte{0}, laid(0)...)} {
		checkNoPack(t, "no pack", b)
	}
}

// P13.2: packs that are cut off anywhere, at their beginning too, or have more bytes.
func TestReadOfPacksCutAndLonger(t *testing.T) {
	for _, l := range [][]object.Object{nil, few()[:1], few()[1:2], few(), reversed(few()), many(8)} {
		b := packed(t, l)
		for n := range b {
			checkNoPack(t, fmt.Sprint("cut off at ", n), b[:n])
			checkNoPack(t, fmt.Sprint("without the first ", n+1), b[n+1:])
		}
		for _, more := range [][]byte{{0}, {1}, {255}, make([]byte, 5), make([]byte, 6), plainBytes(blob("")), plainBytes(blob("more")), laid(0), b} {
			checkNoPack(t, "with more", slices.Concat(b, more))
		}
	}
}

// P13.2: other first bytes: each bit of the mark turned, with and without objects behind it.
func TestReadOfOtherMarks(t *testing.T) {
	for _, l := range [][]object.Object{nil, few()} {
		b := packed(t, l)
		for i := range 32 {
			checkNoPack(t, fmt.Sprint("the bit ", i), sample.Turned(b, i))
		}
	}
}

// P13.2: each number but the right one: one more, one less, and all others.
func TestReadOfOtherNumbers(t *testing.T) {
	for _, n := range []int{0, 1, 2, 5, 255, 256} {
		l := plainRising(many(n))
		for count := range 1 << 16 {
			if n > 5 && count%2053 > 2 && (count < n-3 || count > n+3) || count > 600 && count%251 > 0 && count < 65530 {
				continue
			}
			if count != n {
				checkNoPack(t, fmt.Sprintf("%d objects, told as %d", n, count), laid(count, l...))
			}
		}
	}
}

// P13.2: more objects than may be, with their right number, though they rise; or with that number modulo 65536.
func TestReadOfTooManyObjects(t *testing.T) {
	for _, n := range []int{257, 258, 300, 512} {
		l := plainRising(many(n))
		checkNoPack(t, fmt.Sprint(n), laid(n, l...))
		checkNoPack(t, fmt.Sprint(n, ", told as 256"), laid(256, l...))
		checkNoPack(t, fmt.Sprint(n, ", modulo 256"), laid(n%256, l...))
	}
	l := plainRising(many(256))
	checkPack(t, "256", laid(256, l...), l)
}

// P13.2: in every order but the rising one.
func TestReadOfObjectsThatDoNotRise(t *testing.T) {
	for n := 2; n <= len(few()); n++ {
		want := plainRising(few()[:n])
		orders(few()[:n], func(l []object.Object) {
			b := laid(n, l...)
			if sameObjects(l, want) {
				checkPack(t, "rising", b, want)
			} else {
				checkNoPack(t, "not rising", b)
			}
		})
	}
	l := plainRising(many(256))
	for _, at := range []int{0, 1, 127, 253, 254} {
		other := slices.Clone(l)
		other[at], other[at+1] = other[at+1], other[at]
		checkNoPack(t, fmt.Sprint("turned at ", at), laid(256, other...))
	}
	checkNoPack(t, "falling", laid(256, reversed(l)...))
}

// P13.2: an object twice, next to one another or not, counted once, twice, or in another's stead.
func TestReadOfAnObjectTwice(t *testing.T) {
	l := plainRising(few())
	for _, o := range l {
		checkNoPack(t, "alone", laid(2, o, o))
		for at := range len(l) + 1 {
			twice := slices.Insert(slices.Clone(l), at, o)
			checkNoPack(t, fmt.Sprint("again at ", at), laid(len(twice), twice...))
			checkNoPack(t, fmt.Sprint("again at ", at, ", counted once"), laid(len(l), twice...))
		}
		for at, x := range l {
			if !sameObject(x, o) {
				stead := slices.Clone(l)
				stead[at] = o
				checkNoPack(t, fmt.Sprint("in the stead of ", at), laid(len(l), stead...))
			}
		}
	}
}

// P13.2: objects that object.Check refuses, alone, and among others where their names would stand.
func TestReadOfWrongObjects(t *testing.T) {
	for _, x := range wrongs() {
		// The Kind goes into a byte, so one that is too great may be laid as one that is there.
		if x.o.Kind == 257 {
			continue
		}
		checkNoPack(t, "alone", laid(1, x.o))
		for _, others := range [][]object.Object{few(), many(20), many(255)} {
			l := plainRising(append(slices.Clone(others), x.o))
			checkNoPack(t, "where it would stand", laid(len(l), l...))
			checkNoPack(t, "behind all", laid(len(l), append(plainRising(others), x.o)...))
			checkNoPack(t, "ahead of all", laid(len(l), append([]object.Object{x.o}, plainRising(others)...)...))
		}
	}
	for kind := range 256 {
		o := object.Object{Kind: kind, Data: []byte{0, 0}}
		if ok := checkAsPlain(t, fmt.Sprint("kind ", kind), laid(1, o)); ok != (kind == object.Blob || kind == object.Tree) {
			t.Errorf("kind %d: %t", kind, ok)
		}
	}
}

// P13.2: Data of just MaxObject bytes, and of more.
func TestReadAboutMaxObject(t *testing.T) {
	for _, n := range []int{16383, 16384, 16385, 16386, 65535, 65536, 65537, 1 << 17, 1 << 24} {
		o := object.Object{Kind: object.Blob, Data: sample.Text(n)}
		if ok := checkAsPlain(t, fmt.Sprint(n), laid(1, o)); ok != (n <= 16384) {
			t.Errorf("%d bytes: %t", n, ok)
		}
	}
}

// P13.2: an object's length that is greater than what is there, or less, in each of the places.
func TestReadOfOtherLengths(t *testing.T) {
	l := plainRising([]object.Object{blob("abc"), blob("defgh"), blob("ij")})
	b := laid(3, l...)
	for _, p := range plainIndex(l) {
		for _, n := range []int{0, 1, 2, 3, 4, 5, 6, 7, 8, 9, 10, 20, 100, 255, 256, 16384, 16385, 65535, 65536, 65537, 1 << 24, 1<<31 - 1, 1 << 31, 1<<32 - 5, 1<<32 - 1} {
			if n == p.Len-5 {
				continue
			}
			what := fmt.Sprintf("at %d: %d Data told as %d", p.At, p.Len-5, n)
			checkNoPack(t, what, slices.Concat(b[:p.At+1], number(n, 4), b[p.At+5:]))
		}
	}
	// Objects' bytes within an object's Data are its Data, and no objects of the pack.
	inner := slices.Concat(plainBytes(blob("x")), plainBytes(blob("y")))
	checkPack(t, "one within another", laid(1, object.Object{Kind: 1, Data: inner}), []object.Object{{Kind: 1, Data: inner}})
	checkNoPack(t, "one within another, told as two", laid(2, object.Object{Kind: 1, Data: inner}))
}

// P13.2: any byte changed, missing, or one more there: told as the chapter says, word by word.
func TestReadOfPacksChanged(t *testing.T) {
	for _, l := range [][]object.Object{nil, few()[:1], few(), many(6)} {
		b := packed(t, l)
		for at := range b {
			for _, other := range [][]byte{
				sample.Turned(b, 8*at), sample.Turned(b, 8*at+7), sample.Without(b, at),
				sample.With(b, at, 0), sample.With(b, at, 1), sample.With(b, at, b[at]),
			} {
				checkAsPlain(t, fmt.Sprint("changed at ", at), other)
			}
		}
	}
}

// P13.2: packs of objects by chance, laid wrong in all ways, against the chapter taken word by word.
func TestReadAsThePlainOne(t *testing.T) {
	r := chances(2)
	from := toDraw()
	good := 0
	for range 10000 {
		l := from.drawn(r)
		if r.IntN(3) > 0 {
			l = plainRising(l)
		}
		count := len(l)
		if r.IntN(6) == 0 {
			count += r.IntN(3)
		}
		b := laid(count, l...)
		for range max(r.IntN(6)-3, 0) {
			if len(b) > 0 {
				at := r.IntN(len(b))
				b = [][]byte{sample.Without(b, at), sample.With(b, at, byte(r.IntN(3))), sample.Turned(b, 8*at+r.IntN(8)), b[:at]}[r.IntN(4)]
			}
		}
		if checkAsPlain(t, "by chance", b) {
			good++
		}
	}
	if good < 1000 || good > 9000 {
		t.Errorf("%d were packs", good)
	}
}

// P13.3: what is read of a pack is put to the same bytes again, and packs of unlike objects have unlike bytes.
func TestEachPackHasOneForm(t *testing.T) {
	seen := map[string]int{}
	for from := range 1 << len(few()) {
		var l []object.Object
		for i, o := range few() {
			if from>>i&1 == 1 {
				l = append(l, o)
			}
		}
		b := packed(t, l)
		read, _ := pack.Read(b)
		if again := packed(t, reversed(read)); !bytes.Equal(again, b) {
			t.Errorf("%s are put again to %s, want %s", some(read), shown(again), shown(b))
		}
		if was, ok := seen[string(b)]; ok {
			t.Errorf("those of %b and of %b have one pack", was, from)
		}
		seen[string(b)] = from
	}
}
