package object_test

import (
	"encoding/hex"
	"slices"
	"testing"

	"coffret/api"
	"coffret/object"
	"coffret/sample"
	"coffret/sha"
)

// P10.3: names of a few objects, as another SHA-256 tells them.
func TestIdKnown(t *testing.T) {
	for want, o := range map[string]object.Object{
		"4422af3d482a50d89eb79e5556f48514aba264c05908f54e8d95b178543c8d89": {Kind: 1, Data: []byte("ab")},
		"957b88b12730e646e0f33d3618b77dfa579e8231e3c59c7104be7165611c8027": {Kind: 1},
		"01618742dc85f789b5ab766db699af4ad12d83fd27962839206287ac209176bd": {Kind: 2, Data: make([]byte, 2)},
		"d22f90ea275496d8cebd108b10e5a46e831f257641318f912b77d7c33ef901f4": {Kind: 3, Data: make([]byte, 49)},
		"8c8e31588a2cade13f3bb8a6caccc1fde22c12e722cd635866a024bc9d27ceb6": {Kind: 1, Data: make([]byte, api.MaxObject)},
	} {
		if got := object.Id(o); hex.EncodeToString(got[:]) != want {
			t.Errorf("%s: %x, want %s", shown(o), got, want)
		}
	}
}

// P10.3: Id of any Kind and any Data, right or wrong, against sha.Of.
func TestIdOfAny(t *testing.T) {
	for _, kind := range kinds() {
		for _, n := range []int{0, 1, 2, 55, 56, 57, 255, 256, 1000, api.MaxObject, api.MaxObject + 1, api.MaxSized, api.MaxSized + 1, 1 << 17} {
			size := []byte{byte(n >> 24), byte(n >> 16), byte(n >> 8), byte(n)}
			o := object.Object{Kind: kind, Data: sample.Text(n)}
			if got, want := object.Id(o), sha.Of([]byte{plainKind(kind)}, size, o.Data); got != want {
				t.Errorf("%s: %x, want %x", shown(o), got, want)
			}
		}
	}
}

// P10.3: objects of other Kinds, or of other Data, have other names.
func TestIdOfOthers(t *testing.T) {
	seen := map[api.Id]string{}
	for _, o := range samples() {
		for kind := range 256 {
			o.Kind = kind
			if was, ok := seen[object.Id(o)]; ok && was != shown(o) {
				t.Errorf("%s and %s have one name", was, shown(o))
			}
			seen[object.Id(o)] = shown(o)
		}
	}
}

// P10.3: what each Kind names, in its order, as often as it names it.
func TestLinks(t *testing.T) {
	tree, _ := object.OfTree([]object.Entry{{Name: "a", Id: id(5)}, {Name: "b", Dir: true, Id: id(4)}, {Name: "c", Id: id(5)}, {Name: "d", Id: api.Id{}}})
	commit, _ := object.OfChange(object.Change{Tree: id(3), Parents: []api.Id{id(7), id(2), id(3)}})
	first, _ := object.OfChange(object.Change{Tree: id(3)})
	note, _ := object.OfMark(object.Mark{Target: id(6), Name: "tags/a"})
	empty, _ := object.OfTree(nil)
	for _, c := range []struct {
		o    object.Object
		want []api.Id
	}{
		{tree, []api.Id{id(5), id(4), id(5), {}}},
		{commit, []api.Id{id(3), id(7), id(2), id(3)}},
		{first, []api.Id{id(3)}},
		{note, []api.Id{id(6)}},
		{empty, nil},
		{object.Object{Kind: object.Blob, Data: tree.Data}, nil},
		{object.Object{Kind: object.Blob}, nil},
		{object.Object{}, nil},
	} {
		if got := object.Links(c.o); !slices.Equal(got, c.want) {
			t.Errorf("%s: %x, want %x", shown(c.o), got, c.want)
		}
	}
}

// P10.3: of as many entries and Parents as may be.
func TestLinksOfMany(t *testing.T) {
	for n := range api.MaxEntries + 1 {
		o, _ := object.OfTree(entries(n))
		if got := object.Links(o); !slices.Equal(got, ids(n)) {
			t.Errorf("%d entries: %x", n, got)
		}
	}
	for n := range api.MaxParents + 1 {
		o, _ := object.OfChange(object.Change{Tree: id(99), Parents: ids(n)})
		if got := object.Links(o); !slices.Equal(got, append([]api.Id{id(99)}, ids(n)...)) {
			t.Errorf("%d Parents: %x", n, got)
		}
	}
}

// P10.3: none where Check tells an error: another Kind, too many Data, or Data that are malformed, at their end only too.
func TestLinksOfWrongObjects(t *testing.T) {
	for _, o := range samples() {
		if o.Kind == object.Blob {
			continue
		}
		long := make([]byte, api.MaxObject)
		for _, wrong := range []object.Object{
			{Kind: 0, Data: o.Data},
			{Kind: -o.Kind, Data: o.Data},
			{Kind: 5, Data: o.Data},
			{Kind: o.Kind + 256, Data: o.Data},
			{Kind: o.Kind, Data: append(slices.Clone(o.Data), 0)},
			{Kind: o.Kind, Data: o.Data[:len(o.Data)-1]},
			{Kind: o.Kind, Data: nil},
			{Kind: o.Kind, Data: append(slices.Clone(o.Data), long...)},
			{Kind: object.Blob, Data: o.Data},
		} {
			if got := object.Links(wrong); len(got) != 0 {
				t.Errorf("%s: %x", shown(wrong), got)
			}
		}
	}
	tooLong := plainCommit(object.Change{Tree: id(1), Parents: ids(2), Text: filled(api.MaxObject)})
	if got := object.Links(object.Object{Kind: object.Commit, Data: tooLong}); len(got) != 0 {
		t.Errorf("too long: %x", got)
	}
}
