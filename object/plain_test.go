package object_test

import (
	"bytes"
	"fmt"
	"math"
	"slices"
	"strings"
	"testing"

	"coffret/api"
	"coffret/names"
	"coffret/object"
	"coffret/sample"
	"coffret/sha"
)

// number is v in n bytes, the highest first.
func number(v uint64, n int) []byte {
	var b []byte
	for i := n - 1; i >= 0; i-- {
		b = append(b, byte(v>>(8*i)))
	}
	return b
}

// sized is a text with its length ahead.
func sized(s string) []byte {
	return append(number(uint64(len(s)), 4), s...)
}

// plainTree is the chapter's Data of a Tree, taken word by word, whether there may be such entries or not.
func plainTree(l []object.Entry) []byte {
	b := number(uint64(len(l)), 2)
	for _, x := range l {
		dir := byte(0)
		if x.Dir {
			dir = 1
		}
		b = append(b, dir)
		b = append(b, sized(x.Name)...)
		b = append(b, x.Id[:]...)
	}
	return b
}

// plainCommit is the chapter's Data of a Commit, taken word by word.
func plainCommit(c object.Change) []byte {
	b := append(bytes.Clone(c.Tree[:]), byte(len(c.Parents)))
	for _, id := range c.Parents {
		b = append(b, id[:]...)
	}
	return slices.Concat(b, number(c.Time, 8), sized(c.Author), sized(c.Text))
}

// plainNote is the chapter's Data of a Note, taken word by word.
func plainNote(m object.Mark) []byte {
	return slices.Concat(m.Target[:], sized(m.Name), sized(m.Text))
}

// cursor goes over bytes; what is missing is noted, and told as zeros.
type cursor struct {
	b   []byte
	bad bool
}

func (c *cursor) take(n int) []byte {
	if c.bad || n > len(c.b) {
		c.bad = true
		return make([]byte, min(n, 32))
	}
	x := c.b[:n]
	c.b = c.b[n:]
	return x
}

func (c *cursor) num(n int) uint64 {
	var v uint64
	for _, x := range c.take(n) {
		v = 256*v + uint64(x)
	}
	return v
}

func (c *cursor) text() string { return string(c.take(int(c.num(4)))) }
func (c *cursor) id() api.Id   { return api.Id(c.take(32)) }
func (c *cursor) done() bool   { return !c.bad && len(c.b) == 0 }

// plainTreeOf is the chapter's P10.2 of a Tree's Data, taken word by word.
func plainTreeOf(data []byte) ([]object.Entry, bool) {
	c := &cursor{b: data}
	count := c.num(2)
	if count > 32 {
		return nil, false
	}
	var l []object.Entry
	for i := range int(count) {
		dir := c.num(1)
		x := object.Entry{Dir: dir == 1, Name: c.text(), Id: c.id()}
		if dir > 1 || !names.Part(x.Name) || i > 0 && l[i-1].Name >= x.Name {
			return nil, false
		}
		l = append(l, x)
	}
	return l, c.done() && len(data) <= 16384
}

// plainChangeOf is the chapter's P10.2 of a Commit's Data, taken word by word.
func plainChangeOf(data []byte) (object.Change, bool) {
	c := &cursor{b: data}
	x := object.Change{Tree: c.id()}
	count := c.num(1)
	if count > 4 {
		return object.Change{}, false
	}
	seen := map[api.Id]int{}
	for range count {
		id := c.id()
		seen[id]++
		x.Parents = append(x.Parents, id)
	}
	x.Time = c.num(8)
	x.Author = c.text()
	x.Text = c.text()
	if !c.done() || len(seen) < int(count) || len(data) > 16384 {
		return object.Change{}, false
	}
	return x, true
}

// plainMarkOf is the chapter's P10.2 of a Note's Data, taken word by word.
func plainMarkOf(data []byte) (object.Mark, bool) {
	c := &cursor{b: data}
	x := object.Mark{Target: c.id(), Name: c.text(), Text: c.text()}
	if !c.done() || names.Kind(x.Name) != names.Tag || len(data) > 16384 {
		return object.Mark{}, false
	}
	return x, true
}

// plainCheck is the chapter's P10.2 of Check, taken word by word.
func plainCheck(o object.Object) api.Errno {
	if o.Kind != 1 && o.Kind != 2 && o.Kind != 3 && o.Kind != 4 {
		return api.ErrArg
	}
	if len(o.Data) > 16384 {
		return api.ErrBig
	}
	ok := true
	switch o.Kind {
	case 2:
		_, ok = plainTreeOf(o.Data)
	case 3:
		_, ok = plainChangeOf(o.Data)
	case 4:
		_, ok = plainMarkOf(o.Data)
	}
	if !ok {
		return api.ErrForm
	}
	return api.OK
}

// plainLinks is the chapter's P10.3 of Links, taken word by word.
func plainLinks(o object.Object) []api.Id {
	if plainCheck(o) != api.OK {
		return nil
	}
	var ids []api.Id
	switch o.Kind {
	case 2:
		l, _ := plainTreeOf(o.Data)
		for _, x := range l {
			ids = append(ids, x.Id)
		}
	case 3:
		c, _ := plainChangeOf(o.Data)
		ids = append(ids, c.Tree)
		ids = append(ids, c.Parents...)
	case 4:
		m, _ := plainMarkOf(o.Data)
		ids = append(ids, m.Target)
	}
	return ids
}

// plainKind is a kind as a byte, modulo 256.
func plainKind(kind int) byte {
	return byte((kind%256 + 256) % 256)
}

// plainPut is the chapter's P10.4 of Put, taken word by word.
func plainPut(o object.Object) []byte {
	return append([]byte{plainKind(o.Kind)}, sized(string(o.Data))...)
}

// plainRead is the chapter's P10.4 of Read, taken word by word.
func plainRead(b []byte) (object.Object, bool) {
	c := &cursor{b: b}
	o := object.Object{Kind: int(c.num(1)), Data: []byte(c.text())}
	if !c.done() || plainCheck(o) != api.OK {
		return object.Object{}, false
	}
	return o, true
}

func sameChange(a, b object.Change) bool {
	return a.Tree == b.Tree && slices.Equal(a.Parents, b.Parents) && a.Time == b.Time && a.Author == b.Author && a.Text == b.Text
}

func sameObject(a, b object.Object) bool {
	return a.Kind == b.Kind && bytes.Equal(a.Data, b.Data)
}

// shown is an object, short enough to be shown.
func shown(o object.Object) string {
	return fmt.Sprintf("kind %d, %d bytes %x", o.Kind, len(o.Data), sample.Some(o.Data))
}

// id is an Id that is another for each number.
func id(n int) api.Id {
	return sha.Sum(number(uint64(n), 8))
}

// ids are n Ids, each another.
func ids(n int) []api.Id {
	var l []api.Id
	for i := range n {
		l = append(l, id(i))
	}
	return l
}

// entries are n entries with names that rise.
func entries(n int) []object.Entry {
	var l []object.Entry
	for i := range n {
		l = append(l, object.Entry{Name: fmt.Sprintf("%08d", i), Dir: i%3 == 1, Id: id(i)})
	}
	return l
}

// named are entries with these names.
func named(l ...string) []object.Entry {
	var out []object.Entry
	for i, name := range l {
		out = append(out, object.Entry{Name: name, Dir: i%2 == 1, Id: id(i)})
	}
	return out
}

// filled is a text of n bytes.
func filled(n int) string {
	return string(sample.Text(n))
}

// kinds are numbers that are kinds, and that are none.
func kinds() []int {
	return []int{math.MinInt, math.MinInt32, -255, -254, -253, -252, -4, -3, -2, -1, 0, 1, 2, 3, 4, 5, 6, 127, 128, 255, 256, 257, 258, 259, 260, 261, 513, 1<<32 + 1, 1<<32 + 2, math.MaxInt}
}

// trees are entries of which there may be trees.
func trees() [][]object.Entry {
	return [][]object.Entry{
		nil,
		{{Name: "a"}},
		{{Name: "a", Dir: true}},
		{{Name: "a", Id: api.Id{1}}, {Name: "b", Dir: true, Id: api.Id{2}}},
		{{Name: "a", Id: id(1)}, {Name: "b", Id: id(1)}, {Name: "c", Dir: true, Id: id(1)}},
		named("...", "A", "Z", "a", "a ", "a.", "aa", "b", "\x80", "\xc3\xa9", "\xff", "\xff\xff"),
		named("\x01", "\x02", "-", "heads", "tags", strings.Repeat("x", 64), strings.Repeat("x", 63)+"y"),
		entries(31),
		entries(32),
	}
}

// changes are such as may be commits.
func changes() []object.Change {
	return []object.Change{
		{},
		{Tree: id(9), Time: 7, Author: "me", Text: "why"},
		{Tree: id(9), Parents: ids(1), Time: math.MaxUint64, Author: "", Text: "why"},
		{Tree: id(0), Parents: ids(2), Time: 1 << 63, Author: "me", Text: ""},
		{Parents: []api.Id{{}}, Time: 1},
		{Tree: id(2), Parents: ids(3), Time: 0x0102030405060708, Author: filled(300), Text: filled(70)},
		{Tree: api.Id(sample.Ones(32)), Parents: ids(4), Time: 1<<32 - 1, Author: "\x00", Text: "\xff\x00/\n"},
		{Tree: id(3), Parents: []api.Id{id(2), id(1), id(0), {}}, Author: "a", Text: filled(5000)},
	}
}

// marks are such as may be notes.
func marks() []object.Mark {
	return []object.Mark{
		{Name: "tags/a"},
		{Target: id(3), Name: "tags/a", Text: "t"},
		{Target: id(3), Name: "tags/a/b-c_d.e", Text: filled(300)},
		{Target: api.Id(sample.Ones(32)), Name: "tags/" + strings.Repeat("x", 59), Text: "\x00"},
		{Target: id(1), Name: "tags/tags", Text: filled(5000)},
	}
}

// samples are objects of all kinds, laid word by word.
func samples() []object.Object {
	var l []object.Object
	for _, n := range []int{0, 1, 2, 33, 500} {
		l = append(l, object.Object{Kind: 1, Data: sample.Text(n)})
	}
	for _, x := range trees() {
		l = append(l, object.Object{Kind: 2, Data: plainTree(x)})
	}
	for _, x := range changes() {
		l = append(l, object.Object{Kind: 3, Data: plainCommit(x)})
	}
	for _, x := range marks() {
		l = append(l, object.Object{Kind: 4, Data: plainNote(x)})
	}
	return l
}

// checkTree tells whether there is a tree of these entries, and it is of them.
func checkTree(t *testing.T, l []object.Entry) {
	t.Helper()
	o, e := object.OfTree(l)
	if want := (object.Object{Kind: 2, Data: plainTree(l)}); e != api.OK || !sameObject(o, want) {
		t.Errorf("OfTree of %d: %d, %s, want %s", len(l), int(e), shown(o), shown(want))
		return
	}
	if got, e := object.TreeOf(o); e != api.OK || !slices.Equal(got, l) {
		t.Errorf("TreeOf: %d, %#v, want %#v", int(e), got, l)
	}
	checkAsPlain(t, o)
}

// checkChange tells whether there is a commit of this change, and it is of it.
func checkChange(t *testing.T, c object.Change) {
	t.Helper()
	o, e := object.OfChange(c)
	if want := (object.Object{Kind: 3, Data: plainCommit(c)}); e != api.OK || !sameObject(o, want) {
		t.Errorf("OfChange: %d, %s, want %s", int(e), shown(o), shown(want))
		return
	}
	if got, e := object.ChangeOf(o); e != api.OK || !sameChange(got, c) {
		t.Errorf("ChangeOf of %s: %d, and another change", shown(o), int(e))
	}
	checkAsPlain(t, o)
}

// checkMark tells whether there is a note of this mark, and it is of it.
func checkMark(t *testing.T, m object.Mark) {
	t.Helper()
	o, e := object.OfMark(m)
	if want := (object.Object{Kind: 4, Data: plainNote(m)}); e != api.OK || !sameObject(o, want) {
		t.Errorf("OfMark: %d, %s, want %s", int(e), shown(o), shown(want))
		return
	}
	if got, e := object.MarkOf(o); e != api.OK || got != m {
		t.Errorf("MarkOf of %s: %d, and another mark", shown(o), int(e))
	}
	checkAsPlain(t, o)
}

// checkNoTree tells whether there is no tree of these entries, by which error, and nothing beside it; nor is one told of their Data.
func checkNoTree(t *testing.T, l []object.Entry, want api.Errno) {
	t.Helper()
	if o, e := object.OfTree(l); e != want || o.Kind != 0 || len(o.Data) != 0 {
		t.Errorf("OfTree of %d: %d, %s, want %d", len(l), int(e), shown(o), int(want))
	}
	checkMalformed(t, object.Object{Kind: 2, Data: plainTree(l)})
}

// checkNoChange is checkNoTree of a change.
func checkNoChange(t *testing.T, c object.Change, want api.Errno) {
	t.Helper()
	if o, e := object.OfChange(c); e != want || o.Kind != 0 || len(o.Data) != 0 {
		t.Errorf("OfChange of %d Parents, %d and %d bytes: %d, %s, want %d", len(c.Parents), len(c.Author), len(c.Text), int(e), shown(o), int(want))
	}
	checkMalformed(t, object.Object{Kind: 3, Data: plainCommit(c)})
}

// checkNoMark is checkNoTree of a mark.
func checkNoMark(t *testing.T, m object.Mark, want api.Errno) {
	t.Helper()
	if o, e := object.OfMark(m); e != want || o.Kind != 0 || len(o.Data) != 0 {
		t.Errorf("OfMark of %.99q, %d bytes: %d, %s, want %d", m.Name, len(m.Text), int(e), shown(o), int(want))
	}
	checkMalformed(t, object.Object{Kind: 4, Data: plainNote(m)})
}

// checkMalformed tells whether an object of a kind that there is, is refused by all that look into it.
func checkMalformed(t *testing.T, o object.Object) {
	t.Helper()
	want := api.ErrForm
	if len(o.Data) > 16384 {
		want = api.ErrBig
	}
	if e := object.Check(o); e != want {
		t.Errorf("%s: Check is %d, want %d", shown(o), int(e), int(want))
	}
	tree, change, mark := asked(o)
	if e := []api.Errno{tree, change, mark}[o.Kind-2]; e != api.ErrForm {
		t.Errorf("%s: what it is of is %d, want %d", shown(o), int(e), int(api.ErrForm))
	}
	checkAsPlain(t, o)
}

// asked tells what is wrong with an object as a tree, as a commit and as a note.
func asked(o object.Object) (tree, change, mark api.Errno) {
	_, tree = object.TreeOf(o)
	_, change = object.ChangeOf(o)
	_, mark = object.MarkOf(o)
	return
}

// checkAsPlain holds all that is told of an object against the chapter taken word by word.
func checkAsPlain(t *testing.T, o object.Object) {
	t.Helper()
	if got, want := object.Check(o), plainCheck(o); got != want {
		t.Errorf("%s: Check is %d, want %d", shown(o), int(got), int(want))
	}
	if got, want := object.Links(o), plainLinks(o); !slices.Equal(got, want) {
		t.Errorf("%s: Links are %x, want %x", shown(o), got, want)
	}
	put := object.Put(o)
	if want := plainPut(o); !bytes.Equal(put, want) {
		t.Errorf("%s: Put is %x, want %x", shown(o), sample.Some(put), sample.Some(want))
	}
	if object.Id(o) != sha.Of([]byte{plainKind(o.Kind)}, number(uint64(len(o.Data)), 4), o.Data) {
		t.Errorf("%s: Id is %x", shown(o), object.Id(o))
	}
	checkTold(t, o)
	checkRead(t, put)
}

// wanted is the error of what an object is of, by the chapter.
func wanted(o object.Object, kind int, ok bool) api.Errno {
	if o.Kind != kind {
		return api.ErrArg
	}
	if !ok {
		return api.ErrForm
	}
	return api.OK
}

// checkTold holds what an object is of against the chapter taken word by word; beside an error nothing is told.
func checkTold(t *testing.T, o object.Object) {
	t.Helper()
	l, ok := plainTreeOf(o.Data)
	want := wanted(o, 2, ok)
	if want != api.OK {
		l = nil
	}
	if got, e := object.TreeOf(o); e != want || !slices.Equal(got, l) {
		t.Errorf("%s: TreeOf is %d, %#v, want %d, %#v", shown(o), int(e), got, int(want), l)
	}
	c, ok := plainChangeOf(o.Data)
	want = wanted(o, 3, ok)
	if want != api.OK {
		c = object.Change{}
	}
	if got, e := object.ChangeOf(o); e != want || !sameChange(got, c) {
		t.Errorf("%s: ChangeOf is %d, want %d", shown(o), int(e), int(want))
	}
	m, ok := plainMarkOf(o.Data)
	want = wanted(o, 4, ok)
	if want != api.OK {
		m = object.Mark{}
	}
	if got, e := object.MarkOf(o); e != want || got != m {
		t.Errorf("%s: MarkOf is %d, want %d", shown(o), int(e), int(want))
	}
}

// checkRead holds Read of bytes against the chapter taken word by word; beside an error nothing is told.
func checkRead(t *testing.T, b []byte) {
	t.Helper()
	want := api.OK
	o, ok := plainRead(b)
	if !ok {
		want = api.ErrForm
	}
	if got, e := object.Read(b); e != want || !sameObject(got, o) {
		t.Errorf("Read of %d bytes, %x: %d, %s, want %d, %s", len(b), sample.Some(b), int(e), shown(got), int(want), shown(o))
	}
}

// The limits and kinds that the plain forms above have as numbers are those of the document.
func TestPlainLimits(t *testing.T) {
	if api.MaxEntries != 32 || api.MaxParents != 4 || api.MaxObject != 16384 || api.MaxName != 64 {
		t.Error("the limits are others")
	}
	if object.Blob != 1 || object.Tree != 2 || object.Commit != 3 || object.Note != 4 {
		t.Error("the kinds are others")
	}
}
