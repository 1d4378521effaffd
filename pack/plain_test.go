package pack_test

import (
	"bytes"
	"fmt"
	"math/rand/v2"
	"slices"
	"strings"
	"testing"

	"coffret/api"
	"coffret/object"
	"coffret/pack"
	"coffret/sample"
	"coffret/sha"
)

// number is v in n bytes, the highest first.
func number(v, n int) []byte {
	var b []byte
	for i := n - 1; i >= 0; i-- {
		b = append(b, byte(v>>(8*i)))
	}
	return b
}

// plainBytes is the bytes of an object: its Kind, how many Data it has, and these.
func plainBytes(o object.Object) []byte {
	return slices.Concat([]byte{byte(o.Kind)}, number(len(o.Data), 4), o.Data)
}

func plainId(o object.Object) api.Id {
	return sha.Sum(plainBytes(o))
}

// plainLess is rule 7, taken word by word.
func plainLess(a, b api.Id) bool {
	for i := range a {
		if int(a[i]) != int(b[i]) {
			return int(a[i]) < int(b[i])
		}
	}
	return false
}

// plainRising is objects by rising names, put in one by one.
func plainRising(l []object.Object) []object.Object {
	var out []object.Object
	var ids []api.Id
	for _, o := range l {
		id, at := plainId(o), 0
		for at < len(ids) && plainLess(ids[at], id) {
			at++
		}
		out, ids = slices.Insert(out, at, o), slices.Insert(ids, at, id)
	}
	return out
}

// plainTwice tells whether two objects of a list have one name.
func plainTwice(l []object.Object) bool {
	var ids []api.Id
	for _, o := range l {
		id := plainId(o)
		if slices.Contains(ids, id) {
			return true
		}
		ids = append(ids, id)
	}
	return false
}

// laid is bytes as a pack has them, of a count and of objects just as they stand here, whether there may be such a pack or not.
func laid(count int, l ...object.Object) []byte {
	b := append([]byte("CPK1"), number(count, 2)...)
	for _, o := range l {
		b = append(b, plainBytes(o)...)
	}
	return b
}

// plainPut is the chapter's P13.1 of Put, taken word by word.
func plainPut(l []object.Object) ([]byte, api.Errno) {
	if len(l) > 256 {
		return nil, api.ErrBig
	}
	for _, o := range l {
		if e := object.Check(o); e != api.OK {
			return nil, e
		}
	}
	if plainTwice(l) {
		return nil, api.ErrThere
	}
	return laid(len(l), plainRising(l)...), api.OK
}

// plainRead is the chapter's P13.2 of Read, taken word by word: the only objects that the bytes could be of, where Put of them gives just these bytes.
func plainRead(b []byte) ([]object.Object, bool) {
	var l []object.Object
	rest := b[min(len(b), 6):]
	for len(rest) >= 5 && len(l) <= 256 {
		n := int(rest[1])<<24 | int(rest[2])<<16 | int(rest[3])<<8 | int(rest[4])
		if n > len(rest)-5 {
			break
		}
		l = append(l, object.Object{Kind: int(rest[0]), Data: rest[5 : 5+n]})
		rest = rest[5+n:]
	}
	again, e := plainPut(l)
	return l, e == api.OK && bytes.Equal(again, b)
}

// plainIndex is P13.2 of Index: of objects as they stand in a pack.
func plainIndex(l []object.Object) []pack.Place {
	var out []pack.Place
	at := 6
	for _, o := range l {
		n := len(plainBytes(o))
		out = append(out, pack.Place{Id: plainId(o), At: at, Len: n})
		at += n
	}
	return out
}

// nameOf is a name that no object of the tests has, another for each number.
func nameOf(n int) api.Id {
	return sha.Sum(number(n, 9))
}

func blob(text string) object.Object {
	return object.Object{Kind: object.Blob, Data: []byte(text)}
}

// right is an object that a test must be able to make.
func right(o object.Object, e api.Errno) object.Object {
	if e != api.OK {
		panic(e)
	}
	return o
}

func tree(l ...api.Id) object.Object {
	var entries []object.Entry
	for i, id := range l {
		entries = append(entries, object.Entry{Name: fmt.Sprintf("%03d", i), Dir: i%2 == 1, Id: id})
	}
	return right(object.OfTree(entries))
}

func commit(text string, parents ...api.Id) object.Object {
	return right(object.OfChange(object.Change{Tree: nameOf(1), Parents: parents, Time: 7, Author: "me", Text: text}))
}

func note(text string) object.Object {
	return right(object.OfMark(object.Mark{Target: nameOf(2), Name: "tags/a", Text: text}))
}

// few are objects of each kind, one of no Data among them, and few enough that all their orders can be gone over.
func few() []object.Object {
	return []object.Object{blob("a"), blob(""), tree(object.Id(blob("a"))), commit("why"), note("t")}
}

// kinds are more objects of each kind, the longest that may be too.
func kinds() []object.Object {
	long := strings.Repeat("x", api.MaxObject)
	return append(few(),
		blob("CPK1\x00\x00"), object.Object{Kind: object.Blob, Data: sample.Text(api.MaxObject)}, object.Object{Kind: object.Blob, Data: make([]byte, 5)},
		tree(), tree(nameOf(1), nameOf(2), nameOf(1)),
		commit(""), commit("two", nameOf(3), nameOf(4)), commit(long[:api.MaxObject-len(commit("").Data)]),
		note(""), note(long[:api.MaxObject-len(note("").Data)]),
	)
}

// many is n blobs, no two of them the same.
func many(n int) []object.Object {
	l := make([]object.Object, n)
	for i := range l {
		l[i] = blob(fmt.Sprint("blob ", i))
	}
	return l
}

// wrong is an object that object.Check does not take, and its error.
type wrong struct {
	o    object.Object
	want api.Errno
}

func wrongs() []wrong {
	c := commit("why", nameOf(1))
	return []wrong{
		{object.Object{}, api.ErrArg},
		{object.Object{Kind: 0, Data: []byte("a")}, api.ErrArg},
		{object.Object{Kind: -1}, api.ErrArg},
		{object.Object{Kind: 5}, api.ErrArg},
		{object.Object{Kind: 255, Data: c.Data}, api.ErrArg},
		{object.Object{Kind: 257, Data: []byte("a")}, api.ErrArg},
		{object.Object{Kind: 5, Data: make([]byte, api.MaxObject+1)}, api.ErrArg},
		{object.Object{Kind: object.Blob, Data: make([]byte, api.MaxObject+1)}, api.ErrBig},
		{object.Object{Kind: object.Blob, Data: make([]byte, api.MaxSized)}, api.ErrBig},
		{object.Object{Kind: object.Blob, Data: make([]byte, api.MaxSized+1)}, api.ErrBig},
		{object.Object{Kind: object.Tree, Data: make([]byte, api.MaxObject+1)}, api.ErrBig},
		{object.Object{Kind: object.Tree}, api.ErrForm},
		{object.Object{Kind: object.Tree, Data: []byte{0, 1}}, api.ErrForm},
		{object.Object{Kind: object.Commit, Data: c.Data[:len(c.Data)-1]}, api.ErrForm},
		{object.Object{Kind: object.Commit, Data: append(bytes.Clone(c.Data), 0)}, api.ErrForm},
		{object.Object{Kind: object.Note, Data: c.Data}, api.ErrForm},
	}
}

// orders hands each order of a list on.
func orders(l []object.Object, use func(l []object.Object)) {
	var turn func(done, left []object.Object)
	turn = func(done, left []object.Object) {
		if len(left) == 0 {
			use(done)
		}
		for i, o := range left {
			turn(append(slices.Clone(done), o), slices.Delete(slices.Clone(left), i, i+1))
		}
	}
	turn(nil, l)
}

func reversed[T any](l []T) []T {
	out := slices.Clone(l)
	slices.Reverse(out)
	return out
}

func sameObject(a, b object.Object) bool {
	return a.Kind == b.Kind && bytes.Equal(a.Data, b.Data)
}

func sameObjects(a, b []object.Object) bool {
	return slices.EqualFunc(a, b, sameObject)
}

// shown is the beginning of bytes, short enough to be shown, and how many there are.
func shown(b []byte) string {
	return fmt.Sprintf("%d bytes %x", len(b), sample.Some(b))
}

// some are objects, short enough to be shown.
func some(l []object.Object) string {
	out := fmt.Sprint(len(l), " objects")
	for _, o := range l[:min(len(l), 8)] {
		out += fmt.Sprintf(", %d: %d bytes %x", o.Kind, len(o.Data), o.Data[:min(len(o.Data), 12)])
	}
	return out
}

// packed is what Put gives of objects that it must take.
func packed(t *testing.T, l []object.Object) []byte {
	t.Helper()
	b, e := pack.Put(l)
	if e != api.OK {
		t.Fatalf("Put of %s: error %d", some(l), int(e))
	}
	return b
}

// checkPut tells whether Put of objects is as the chapter says, taken word by word, and its length what Length says; and hands on what it gave.
func checkPut(t *testing.T, l []object.Object) []byte {
	t.Helper()
	b := packed(t, l)
	if want, _ := plainPut(l); !bytes.Equal(b, want) {
		t.Errorf("Put of %s: %s, want %s", some(l), shown(b), shown(want))
	}
	if n := pack.Length(l); n != len(b) {
		t.Errorf("Length of %s: %d, want %d", some(l), n, len(b))
	}
	return b
}

// checkNoPut tells whether Put refuses objects by this error, with nothing beside it.
func checkNoPut(t *testing.T, what string, l []object.Object, want api.Errno) {
	t.Helper()
	if b, e := pack.Put(l); e != want || len(b) != 0 {
		t.Errorf("%s: Put of %s: %s, error %d, want %d", what, some(l), shown(b), int(e), int(want))
	}
}

// checkPack tells whether bytes are a pack of just these objects, in this order.
func checkPack(t *testing.T, what string, b []byte, l []object.Object) {
	t.Helper()
	if got, e := pack.Read(b); e != api.OK || !sameObjects(got, l) {
		t.Errorf("%s: Read: %s, error %d, want %s", what, some(got), int(e), some(l))
	}
	index, e := pack.Index(b)
	if e != api.OK || !slices.Equal(index, plainIndex(l)) {
		t.Errorf("%s: Index: %d places, error %d, want %d", what, len(index), int(e), len(l))
	}
	for _, o := range l {
		if got, e := pack.Find(b, plainId(o)); e != api.OK || !sameObject(got, o) {
			t.Errorf("%s: Find: %s, error %d, want %s", what, some([]object.Object{got}), int(e), some([]object.Object{o}))
		}
	}
	for _, id := range []api.Id{{}, nameOf(0), api.Id(sample.Ones(32))} {
		checkNotFound(t, what, b, id, api.ErrNone)
	}
}

func checkNotFound(t *testing.T, what string, b []byte, id api.Id, want api.Errno) {
	t.Helper()
	if o, e := pack.Find(b, id); e != want || o.Kind != 0 || len(o.Data) != 0 {
		t.Errorf("%s: Find of %x: %s, error %d, want %d", what, id, some([]object.Object{o}), int(e), int(want))
	}
}

// checkNoPack tells whether bytes are refused, with nothing beside the error, whatever name is asked for.
func checkNoPack(t *testing.T, what string, b []byte) {
	t.Helper()
	if l, e := pack.Read(b); e != api.ErrForm || len(l) != 0 {
		t.Errorf("%s: Read of %s: %s, error %d", what, shown(b), some(l), int(e))
	}
	if l, e := pack.Index(b); e != api.ErrForm || len(l) != 0 {
		t.Errorf("%s: Index of %s: %v, error %d", what, shown(b), l, int(e))
	}
	checkNotFound(t, what, b, api.Id{}, api.ErrForm)
	checkNotFound(t, what, b, plainId(blob("a")), api.ErrForm)
}

// checkAsPlain tells whether bytes are told as the chapter says, taken word by word; and whether they are a pack.
func checkAsPlain(t *testing.T, what string, b []byte) bool {
	t.Helper()
	l, ok := plainRead(b)
	if ok {
		checkPack(t, what, b, l)
	} else {
		checkNoPack(t, what, b)
	}
	return ok
}

// chances are numbers that look like chance, and are the same in each run.
func chances(seed uint64) *rand.Rand {
	return rand.New(rand.NewPCG(seed, 13))
}

// The numbers that the plain forms above have are those of api and of the document.
func TestPlainLimits(t *testing.T) {
	if api.MaxObjects != 256 || api.MaxObject != 16384 {
		t.Error("the limits are others")
	}
	if api.ErrArg != 2 || api.ErrBig != 3 || api.ErrForm != 11 || api.ErrNone != 13 || api.ErrThere != 14 {
		t.Error("the errors are others")
	}
}

// The objects that the tests take are right ones, and no two have one name; the wrong ones are wrong as told.
func TestPlainObjects(t *testing.T) {
	for _, o := range kinds() {
		if e := object.Check(o); e != api.OK || plainId(o) != object.Id(o) || !bytes.Equal(plainBytes(o), object.Put(o)) {
			t.Errorf("%s: error %d", some([]object.Object{o}), int(e))
		}
	}
	if plainTwice(append(kinds(), many(257)...)) || !plainTwice(append(kinds(), blob("a"))) {
		t.Error("two have one name, or none have")
	}
	for _, x := range wrongs() {
		if e := object.Check(x.o); e != x.want {
			t.Errorf("%s: error %d, want %d", some([]object.Object{x.o}), int(e), int(x.want))
		}
	}
}
