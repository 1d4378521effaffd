package pack_test

import (
	"bytes"
	"fmt"
	"slices"
	"strings"
	"testing"

	"coffret/api"
	"coffret/object"
	"coffret/pack"
	"coffret/sample"
)

// The chapter's example 1, and P13.1 of no objects, however they are handed in.
func TestPutOfNone(t *testing.T) {
	for _, l := range [][]object.Object{nil, {}, few()[:0]} {
		if b := checkPut(t, l); string(b) != "CPK1\x00\x00" {
			t.Errorf("%q", b)
		}
		if n := pack.Length(l); n != 6 {
			t.Errorf("Length is %d", n)
		}
	}
}

// P13.1: packs, byte by byte. Which of the names is less another SHA-256 tells.
func TestPutBytes(t *testing.T) {
	for _, c := range []struct {
		want string
		l    []object.Object
	}{
		{"CPK1\x00\x01" + "\x01\x00\x00\x00\x02ab", []object.Object{blob("ab")}},
		{"CPK1\x00\x01" + "\x01\x00\x00\x00\x00", []object.Object{{Kind: object.Blob}}},
		{"CPK1\x00\x01" + "\x02\x00\x00\x00\x02\x00\x00", []object.Object{tree()}},
		{"CPK1\x00\x01" + "\x03\x00\x00\x00\x31" + strings.Repeat("\x00", 49), []object.Object{right(object.OfChange(object.Change{}))}},
		// The names begin with 44 22 (the blob "ab"), 95 7b (the empty one), 01 61 (the tree) and d2 2f (the commit).
		{
			"CPK1\x00\x04" + "\x02\x00\x00\x00\x02\x00\x00" + "\x01\x00\x00\x00\x02ab" + "\x01\x00\x00\x00\x00" + "\x03\x00\x00\x00\x31" + strings.Repeat("\x00", 49),
			[]object.Object{blob("ab"), blob(""), tree(), right(object.OfChange(object.Change{}))},
		},
	} {
		if b := checkPut(t, c.l); string(b) != c.want {
			t.Errorf("Put of %s: %x, want %x", some(c.l), b, c.want)
		}
	}
}

// P13.1, P13.2: one object of each kind, alone, the longest that may be too.
func TestPutOfOne(t *testing.T) {
	for _, o := range kinds() {
		l := []object.Object{o}
		b := checkPut(t, l)
		if !bytes.Equal(b, slices.Concat([]byte("CPK1\x00\x01"), object.Put(o))) {
			t.Errorf("Put of %s: %s", some(l), shown(b))
		}
		checkPack(t, "one", b, l)
	}
}

// P13.1, P13.3: objects in every order have the same bytes, by rising names, and are told so.
func TestPutInEveryOrder(t *testing.T) {
	for n := range len(few()) + 1 {
		want := packed(t, few()[:n])
		count := 0
		orders(few()[:n], func(l []object.Object) {
			count++
			if b := checkPut(t, l); !bytes.Equal(b, want) {
				t.Errorf("Put of %s: %s, want %s", some(l), shown(b), shown(want))
			}
		})
		checkPack(t, fmt.Sprint(n), want, plainRising(few()[:n]))
		if count == 0 {
			t.Errorf("%d objects: no order", n)
		}
	}
}

// P13.1: the objects stand by rising names, each behind the other.
func TestPutRises(t *testing.T) {
	for _, l := range [][]object.Object{kinds(), reversed(kinds()), many(100), many(256), reversed(many(256)), plainRising(many(256)), reversed(plainRising(many(256)))} {
		b := checkPut(t, l)
		rest := b[6:]
		var last api.Id
		for _, o := range plainRising(l) {
			if !bytes.HasPrefix(rest, object.Put(o)) || !plainLess(last, object.Id(o)) {
				t.Fatalf("%s: another object stands at %d", some(l), len(b)-len(rest))
			}
			last = object.Id(o)
			rest = rest[len(object.Put(o)):]
		}
		if len(rest) > 0 {
			t.Errorf("%s: %s are left", some(l), shown(rest))
		}
	}
}

// P13.1, P13.2: as many objects as may be, one fewer, and those numbers whose two bytes could be mixed up.
func TestPutOfMany(t *testing.T) {
	for _, n := range []int{2, 3, 127, 128, 254, 255, 256} {
		l := many(n)
		b := checkPut(t, l)
		if b[4] != byte(n/256) || b[5] != byte(n%256) {
			t.Errorf("%d objects: % x", n, b[:6])
		}
		checkPack(t, fmt.Sprint(n), b, plainRising(l))
	}
}

// P13.1: as many objects as may be, each of as many Data as may be.
func TestPutOfTheGreatest(t *testing.T) {
	l := make([]object.Object, api.MaxObjects)
	for i := range l {
		l[i] = object.Object{Kind: object.Blob, Data: sample.Text(api.MaxObject)}
		l[i].Data[0] = byte(i)
	}
	b := packed(t, l)
	if want := 6 + 256*(5+16384); len(b) != want || pack.Length(l) != want {
		t.Errorf("%d bytes, Length %d, want %d", len(b), pack.Length(l), want)
	}
	if got, e := pack.Read(b); e != api.OK || !sameObjects(got, plainRising(l)) {
		t.Errorf("%s, error %d", some(got), int(e))
	}
}

// P13.1: more than MaxObjects are too many, whatever else is wrong with them.
func TestPutOfTooMany(t *testing.T) {
	for _, n := range []int{257, 258, 511, 512, 513, 65535, 65536, 65537, 65792, 1 << 17} {
		checkNoPut(t, fmt.Sprint(n), many(n), api.ErrBig)
		checkNoPut(t, "all the same", make([]object.Object, n), api.ErrBig)
	}
	for _, x := range wrongs() {
		for _, at := range []int{0, 100, 256} {
			checkNoPut(t, fmt.Sprint("a wrong one at ", at), slices.Insert(many(256), at, x.o), api.ErrBig)
		}
	}
	checkNoPut(t, "one twice", append(many(256), many(1)...), api.ErrBig)
}

// P13.1: an object that object.Check refuses, alone, and at each place among others.
func TestPutOfWrongOnes(t *testing.T) {
	for _, x := range wrongs() {
		checkNoPut(t, "alone", []object.Object{x.o}, x.want)
		for at := range len(few()) + 1 {
			checkNoPut(t, fmt.Sprint("at ", at), slices.Insert(few(), at, x.o), x.want)
		}
		for _, at := range []int{0, 128, 255} {
			checkNoPut(t, fmt.Sprint("of many, at ", at), slices.Insert(many(255), at, x.o), x.want)
		}
	}
}

// P13.1: where more than one are refused, the first one's error is told, wherever they stand, and whichever has the lesser name.
func TestPutOfTwoWrongOnes(t *testing.T) {
	for _, x := range wrongs() {
		for _, y := range wrongs() {
			checkNoPut(t, "two", []object.Object{x.o, y.o}, x.want)
			checkNoPut(t, "among others", slices.Concat(few()[:2], []object.Object{x.o}, few()[2:], []object.Object{y.o}), x.want)
		}
	}
}

// P13.1: an object that is refused is told ahead of two with one name, right ones or wrong ones, wherever these stand.
func TestPutOfWrongOnesAndTwice(t *testing.T) {
	a, b := blob("a"), blob("b")
	for _, x := range wrongs() {
		for _, l := range [][]object.Object{{a, a, x.o}, {a, x.o, a}, {x.o, a, a}, {x.o, x.o}, {a, a, x.o, x.o}, {b, a, a, b, x.o}} {
			checkNoPut(t, "twice, and a wrong one", l, x.want)
		}
		checkNoPut(t, "at the end of many", slices.Concat(many(254), many(1), []object.Object{x.o}), x.want)
	}
}

// P13.1: two have one name, at all places, next to one another or not.
func TestPutOfOneTwice(t *testing.T) {
	for _, l := range [][]object.Object{few(), reversed(few()), plainRising(kinds())} {
		for _, o := range l {
			for at := range len(l) + 1 {
				checkNoPut(t, fmt.Sprint("again at ", at), slices.Insert(slices.Clone(l), at, o), api.ErrThere)
			}
		}
	}
	for _, o := range kinds() {
		checkNoPut(t, "twice", []object.Object{o, o}, api.ErrThere)
		checkNoPut(t, "three times", []object.Object{o, o, o}, api.ErrThere)
	}
	checkNoPut(t, "twice of 256", append(many(255), many(255)[254]), api.ErrThere)
	checkNoPut(t, "256 times", slices.Repeat(many(1), 256), api.ErrThere)
	checkNoPut(t, "no Data, and nil", []object.Object{{Kind: object.Blob}, {Kind: object.Blob, Data: []byte{}}}, api.ErrThere)
}

// P13.1: the same Data in objects of other Kinds are other objects.
func TestPutOfSameData(t *testing.T) {
	for _, o := range []object.Object{tree(), tree(nameOf(1)), commit("why"), note("t")} {
		l := []object.Object{o, {Kind: object.Blob, Data: o.Data}}
		checkPack(t, "the same Data", checkPut(t, l), plainRising(l))
	}
}

// P13.1: Length of any objects, those that Put refuses too, is the same sum.
func TestLength(t *testing.T) {
	all := [][]object.Object{nil, few(), kinds(), many(256), many(257), many(70000), make([]object.Object, 300), append(few(), few()...)}
	for _, x := range wrongs() {
		all = append(all, []object.Object{x.o}, append(few(), x.o, x.o))
	}
	for _, l := range all {
		want := 6
		for _, o := range l {
			want = want + 5 + len(o.Data)
		}
		if n := pack.Length(l); n != want {
			t.Errorf("%s: %d, want %d", some(l), n, want)
		}
	}
	for _, c := range []struct {
		l    []object.Object
		want int
	}{
		{nil, 6},
		{[]object.Object{{}}, 11},
		{[]object.Object{blob("ab")}, 13},
		{[]object.Object{blob("ab"), blob("ab"), {Kind: -1, Data: make([]byte, 1<<20)}}, 6 + 7 + 7 + 5 + 1<<20},
	} {
		if n := pack.Length(c.l); n != c.want {
			t.Errorf("%s: %d, want %d", some(c.l), n, c.want)
		}
	}
}

// P13.1, P13.3: objects by chance, now and then a wrong one or one twice among them, against the chapter taken word by word.
func TestPutAsThePlainOne(t *testing.T) {
	r := chances(1)
	from := toDraw()
	came := map[api.Errno]int{}
	for range 3000 {
		l := from.drawn(r)
		b, e := pack.Put(l)
		want, wantError := plainPut(l)
		if e != wantError || !bytes.Equal(b, want) {
			t.Errorf("Put of %s: %s, error %d, want %s, error %d", some(l), shown(b), int(e), shown(want), int(wantError))
		}
		r.Shuffle(len(l), func(i, j int) { l[i], l[j] = l[j], l[i] })
		if e == api.OK && !bytes.Equal(packed(t, l), b) {
			t.Errorf("%s in another order have other bytes", some(l))
		}
		came[e]++
	}
	for _, e := range []api.Errno{api.OK, api.ErrArg, api.ErrBig, api.ErrForm, api.ErrThere} {
		if came[e] < 50 {
			t.Errorf("error %d came but %d times", int(e), came[e])
		}
	}
}
