package object_test

import (
	"math"
	"slices"
	"strings"
	"testing"

	"coffret/api"
	"coffret/object"
	"coffret/sample"
)

// P10.1: the Data of a tree, byte by byte.
func TestOfTreeData(t *testing.T) {
	o, e := object.OfTree(nil)
	if e != api.OK || o.Kind != object.Tree || string(o.Data) != "\x00\x00" {
		t.Errorf("no entries: %d, %s", int(e), shown(o))
	}
	first, second := api.Id{1, 31: 2}, api.Id(sample.Ones(32))
	o, e = object.OfTree([]object.Entry{{Name: "ab", Id: first}, {Name: "b", Dir: true, Id: second}})
	want := "\x00\x02" +
		"\x00" + "\x00\x00\x00\x02ab" + "\x01" + strings.Repeat("\x00", 30) + "\x02" +
		"\x01" + "\x00\x00\x00\x01b" + strings.Repeat("\xff", 32)
	if e != api.OK || o.Kind != object.Tree || string(o.Data) != want {
		t.Errorf("two entries: %d, %s, want %x", int(e), shown(o), want)
	}
}

// P10.1: the Data of a commit, byte by byte.
func TestOfChangeData(t *testing.T) {
	o, e := object.OfChange(object.Change{})
	if e != api.OK || o.Kind != object.Commit || string(o.Data) != strings.Repeat("\x00", 32+1+8+4+4) {
		t.Errorf("nothing: %d, %s", int(e), shown(o))
	}
	o, e = object.OfChange(object.Change{
		Tree:    api.Id{9},
		Parents: []api.Id{{2}, {1}},
		Time:    0x0102030405060708,
		Author:  "me",
		Text:    "why",
	})
	rest := strings.Repeat("\x00", 31)
	want := "\x09" + rest + "\x02" + "\x02" + rest + "\x01" + rest + "\x01\x02\x03\x04\x05\x06\x07\x08" + "\x00\x00\x00\x02me" + "\x00\x00\x00\x03why"
	if e != api.OK || o.Kind != object.Commit || string(o.Data) != want {
		t.Errorf("two Parents: %d, %s, want %x", int(e), shown(o), want)
	}
}

// P10.1: the Data of a note, byte by byte.
func TestOfMarkData(t *testing.T) {
	o, e := object.OfMark(object.Mark{Target: api.Id{3}, Name: "tags/a", Text: "t"})
	want := "\x03" + strings.Repeat("\x00", 31) + "\x00\x00\x00\x06tags/a" + "\x00\x00\x00\x01t"
	if e != api.OK || o.Kind != object.Note || string(o.Data) != want {
		t.Errorf("%d, %s, want %x", int(e), shown(o), want)
	}
}

// P10.1: trees, commits and notes of all that may be.
func TestOfWhatMayBe(t *testing.T) {
	for _, l := range trees() {
		checkTree(t, l)
	}
	for _, c := range changes() {
		checkChange(t, c)
	}
	for _, m := range marks() {
		checkMark(t, m)
	}
}

// P10.1: no entries, nil or empty, any number of them up to MaxEntries, and one more, and far more.
func TestOfTreeAboutMaxEntries(t *testing.T) {
	checkTree(t, nil)
	checkTree(t, []object.Entry{})
	checkTree(t, entries(5)[:0])
	for n := range api.MaxEntries + 1 {
		checkTree(t, entries(n))
	}
	for _, n := range []int{api.MaxEntries + 1, api.MaxEntries + 2, 255, 256, 257, 65535, 65536, 65537, 65568} {
		checkNoTree(t, entries(n), api.ErrBig)
	}
}

// P10.1: the longest tree is far from MaxObject.
func TestOfTreeOfLongNames(t *testing.T) {
	var l []object.Entry
	for i := range api.MaxEntries {
		l = append(l, object.Entry{Name: strings.Repeat("x", api.MaxName-1) + string([]byte{byte(200 + i)}), Dir: true, Id: id(i)})
	}
	checkTree(t, l)
	if o, _ := object.OfTree(l); len(o.Data) != 2+32*101 {
		t.Errorf("%d bytes", len(o.Data))
	}
}

// badNames are names that may not be in a tree.
func badNames() []string {
	return []string{
		"", ".", "..", "/", "a/", "/a", "a/b", "\x00", "a\x00", "\x00a", "a\x00b", "\xff/", "./a", "../a",
		strings.Repeat("x", api.MaxName+1), strings.Repeat("\xff", api.MaxName+1), strings.Repeat("é", api.MaxName/2+1),
		filled(300), strings.Repeat("x", api.MaxSized), strings.Repeat("x", api.MaxSized+1),
	}
}

// P10.1: names that may not be, alone, first, last, and between, though they rise.
func TestOfTreeOfNamesThatMayNotBe(t *testing.T) {
	for _, bad := range badNames() {
		for _, others := range [][]string{{}, {"a"}, {"0", "zz"}, {"!", "-", "0", "A", "\xfe"}} {
			l := append(slices.Clone(others), bad)
			slices.Sort(l)
			checkNoTree(t, named(slices.Compact(l)...), api.ErrArg)
		}
	}
	for n := 1; n <= api.MaxEntries; n++ {
		for _, at := range []int{0, n / 2, n - 1} {
			l := entries(n)
			l[at].Name += "/"
			checkNoTree(t, l, api.ErrArg)
		}
	}
}

// P10.1: names of just MaxName bytes, and of any bytes but / and 0, may be.
func TestOfTreeOfNamesThatMayBe(t *testing.T) {
	for _, name := range []string{"...", ".a", "a.", "a..b", " ", "\n", "\\", "-", "\x01", "\xff", "é", "\xe4", strings.Repeat("x", api.MaxName), strings.Repeat("\xff", api.MaxName), strings.Repeat("é", api.MaxName/2)} {
		checkTree(t, named(name))
	}
	for x := 1; x < 256; x++ {
		if x != '/' && x != '.' {
			checkTree(t, named(string([]byte{byte(x)})))
		}
	}
}

// P10.1: names rise byte by byte, the shorter one first; where they don't, or are twice the same, there is no tree.
func TestOfTreeOfNamesThatRise(t *testing.T) {
	for _, two := range [][2]string{
		{"a", "b"}, {"a", "aa"}, {"a", "a\x01"}, {"ab", "b"}, {"Z", "a"}, {"-", "a"}, {"a-b", "a.b"}, {"a", "a.b"}, {"10", "9"},
		{"\x7f", "\x80"}, {"z", "\xff"}, {"z", "é"}, {"é", "\xff"}, {"\xc3", "é"}, {"\ufffd", "\xff"}, {"\U00010000", "\xff"}, {"\uffff", "\U00010000"},
		{strings.Repeat("x", 63), strings.Repeat("x", 64)}, {strings.Repeat("x", 63) + "a", strings.Repeat("x", 63) + "b"},
	} {
		checkTree(t, named(two[0], two[1]))
		checkNoTree(t, named(two[1], two[0]), api.ErrArg)
		checkNoTree(t, named(two[0], two[0]), api.ErrArg)
		checkNoTree(t, named(two[0], two[1], two[1]), api.ErrArg)
		checkNoTree(t, named(two[0], two[1], two[0]), api.ErrArg)
		checkNoTree(t, named(two[0], two[0], two[1]), api.ErrArg)
	}
	checkNoTree(t, []object.Entry{{Name: "a"}, {Name: "a", Dir: true}}, api.ErrArg)
	checkNoTree(t, []object.Entry{{Name: "a", Dir: true, Id: id(1)}, {Name: "a", Id: id(2)}}, api.ErrArg)
}

// P10.1: any two of many entries with their places changed, or one name twice.
func TestOfTreeOfManyThatDoNotRise(t *testing.T) {
	for _, n := range []int{2, 3, 7, api.MaxEntries} {
		for i := range n {
			for j := range i {
				l := entries(n)
				l[i], l[j] = l[j], l[i]
				checkNoTree(t, l, api.ErrArg)
				l = entries(n)
				l[i].Name = l[j].Name
				checkNoTree(t, l, api.ErrArg)
			}
		}
	}
}

// P10.1: too many entries are told ahead of names that may not be.
func TestOfTreeTooManyFirst(t *testing.T) {
	for _, n := range []int{api.MaxEntries + 1, 100} {
		l := make([]object.Entry, n)
		checkNoTree(t, l, api.ErrBig)
		l = entries(n)
		l[0].Name = "a/b"
		checkNoTree(t, l, api.ErrBig)
		l = entries(n)
		slices.Reverse(l)
		checkNoTree(t, l, api.ErrBig)
	}
}

// P10.1: no Parents, nil or empty, any number up to MaxParents, and more.
func TestOfChangeAboutMaxParents(t *testing.T) {
	checkChange(t, object.Change{Tree: id(1), Parents: []api.Id{}})
	checkChange(t, object.Change{Tree: id(1), Parents: ids(3)[:0]})
	for n := range api.MaxParents + 1 {
		checkChange(t, object.Change{Tree: id(1), Parents: ids(n), Text: "x"})
		// The Tree may be among the Parents, and the first Parent be behind the others in their order.
		checkChange(t, object.Change{Tree: id(0), Parents: ids(n)})
		down := ids(n)
		slices.Reverse(down)
		checkChange(t, object.Change{Tree: id(0), Parents: down})
	}
	for _, n := range []int{api.MaxParents + 1, api.MaxParents + 2, 255, 256, 257, 260, 65536} {
		checkNoChange(t, object.Change{Parents: ids(n)}, api.ErrBig)
		checkNoChange(t, object.Change{Parents: make([]api.Id, n)}, api.ErrBig)
	}
}

// P10.1: a Parent that is there twice, at any two places, next to each other or apart.
func TestOfChangeOfAParentTwice(t *testing.T) {
	for n := 2; n <= api.MaxParents; n++ {
		for i := range n {
			for j := range i {
				l := ids(n)
				l[i] = l[j]
				checkNoChange(t, object.Change{Tree: id(9), Parents: l, Author: "a", Text: "t"}, api.ErrArg)
			}
		}
		checkNoChange(t, object.Change{Parents: make([]api.Id, n)}, api.ErrArg)
		// Parents of which any two differ by one bit alone are others.
		l := make([]api.Id, n)
		for i := range l {
			l[i][31-i] = 1
		}
		checkChange(t, object.Change{Parents: l})
	}
}

// P10.1: Times in their whole range.
func TestOfChangeTimes(t *testing.T) {
	for _, v := range []uint64{0, 1, 255, 256, 1<<32 - 1, 1 << 32, math.MaxInt64, 1 << 63, math.MaxUint64 - 1, math.MaxUint64} {
		checkChange(t, object.Change{Time: v})
	}
	for i := range 64 {
		checkChange(t, object.Change{Time: 1 << i, Parents: ids(1)})
	}
}

// P10.1: Data of just MaxObject bytes, and of others about it, by the Author, by the Text, and by both, for any number of Parents.
func TestOfChangeAboutMaxObject(t *testing.T) {
	for n := range api.MaxParents + 1 {
		room := api.MaxObject - (32 + 1 + 32*n + 8 + 4 + 4)
		for _, author := range []int{0, 1, 100, room / 2, room - 1, room} {
			c := object.Change{Tree: id(1), Parents: ids(n), Time: 7, Author: filled(author)}
			for _, less := range []int{0, 1, 2} {
				if author+less <= room {
					c.Text = filled(room - author - less)
					checkChange(t, c)
				}
			}
			for _, more := range []int{1, 2, 3, 32, 64, 128, 160, 300} {
				c.Text = filled(room - author + more)
				checkNoChange(t, c, api.ErrBig)
			}
		}
		for _, long := range []int{room + 1, api.MaxObject, api.MaxObject + 1, api.MaxSized, api.MaxSized + 1, 1 << 20} {
			checkNoChange(t, object.Change{Parents: ids(n), Author: filled(long)}, api.ErrBig)
			checkNoChange(t, object.Change{Parents: ids(n), Text: filled(long)}, api.ErrBig)
			checkNoChange(t, object.Change{Parents: ids(n), Author: filled(long), Text: filled(long)}, api.ErrBig)
		}
	}
}

// P10.1: too many Parents are told first, then one that is there twice, then too many Data.
func TestOfChangeFirstError(t *testing.T) {
	long := filled(api.MaxObject)
	twice := []api.Id{id(1), id(2), id(1)}
	many := slices.Concat(twice, twice)
	checkNoChange(t, object.Change{Parents: twice, Text: long}, api.ErrArg)
	checkNoChange(t, object.Change{Parents: twice, Author: long}, api.ErrArg)
	checkNoChange(t, object.Change{Parents: many}, api.ErrBig)
	checkNoChange(t, object.Change{Parents: many, Text: long}, api.ErrBig)
	checkNoChange(t, object.Change{Parents: many[:4], Text: long}, api.ErrArg)
	checkNoChange(t, object.Change{Parents: many[:5]}, api.ErrBig)
	checkNoChange(t, object.Change{Parents: ids(4), Text: long}, api.ErrBig)
}

// P10.1: the name of a mark is that of a Tag: not of a Branch, nor of nothing.
func TestOfMarkNames(t *testing.T) {
	for _, name := range []string{"tags/a", "tags/v1.0", "tags/a/b", "tags/heads/a", "tags/A-", "tags/_", "tags/" + strings.Repeat("x", 59)} {
		checkMark(t, object.Mark{Target: id(1), Name: name, Text: "t"})
	}
	for _, name := range []string{
		"heads/a", "heads/main", "heads/tags/a", "heads/" + strings.Repeat("x", 58),
		"", "a", "tags", "tags/", "/tags/a", "tag/a", "Tags/a", "tags//a", "tags/a/", "tags/a b", "tags/-a", "tags/.a", "tags/a.", "tags/a..b", "tags/a.lock", "tags/\x00", "tags/é", "tags/\xff",
		"tags/" + strings.Repeat("x", 60), "tags/" + strings.Repeat("x", api.MaxObject), " tags/a", "tags/a ",
	} {
		checkNoMark(t, object.Mark{Target: id(1), Name: name, Text: "t"}, api.ErrArg)
	}
}

// P10.1: Data of just MaxObject bytes, and of others about it, for names short and long.
func TestOfMarkAboutMaxObject(t *testing.T) {
	for _, name := range []string{"tags/a", "tags/ab/c", "tags/" + strings.Repeat("x", 59)} {
		room := api.MaxObject - (32 + 4 + len(name) + 4)
		for n := room - 70; n <= room+70; n++ {
			m := object.Mark{Target: id(2), Name: name, Text: filled(n)}
			if n <= room {
				checkMark(t, m)
				continue
			}
			checkNoMark(t, m, api.ErrBig)
		}
		for _, n := range []int{api.MaxObject, api.MaxObject + 1, api.MaxSized, api.MaxSized + 1, 1 << 20} {
			checkNoMark(t, object.Mark{Name: name, Text: filled(n)}, api.ErrBig)
		}
	}
}

// P10.1: a name that may not be is told ahead of too many Data.
func TestOfMarkFirstError(t *testing.T) {
	for _, name := range []string{"", "heads/a", "tags/.", filled(api.MaxObject)} {
		checkNoMark(t, object.Mark{Name: name, Text: filled(api.MaxObject)}, api.ErrArg)
	}
	checkNoMark(t, object.Mark{Name: "tags/a", Text: filled(api.MaxObject)}, api.ErrBig)
}
