package store_test

import (
	"bytes"
	"maps"
	"slices"
	"testing"
	"unsafe"

	"coffret/api"
	"coffret/disk"
	"coffret/sample"
)

// kinds are changes that come to each answer of a store on a disk of 12 sectors, by what they come to.
func kinds() map[string][]change {
	return map[string][]change{
		"behind the last": {put("a", "1"), gone("b"), put("c", "")},
		"moved":           {put("a", string(sample.Text(700))), put("b", "1"), {Key: "c", Value: []byte("xyz"), Gone: true}},
		"full":            {put("a", string(sample.Text(1300)))},
		"wrong":           {put("a", "1"), put("", "1")},
		"many":            many(4097),
	}
}

// spared are the same changes in memory whose spare room is known.
func spared(l []change) []change {
	own := append(slices.Clone(l), put("spare", "1"), put("spare", "2"))[:len(l)]
	for i := range own {
		own[i].Value = sample.Spared(own[i].Value)
	}
	return own
}

// Rules 4 and 8: changes that are handed in are as they were, the Values too, the spare room of all, and that is not read.
func TestChangesAreNotTouched(t *testing.T) {
	for what, l := range kinds() {
		for _, armed := range []int{-1, 0, 3} {
			c := paired(t, made(t, 12))
			own := spared(l)
			c.arm(armed)
			c.commit(t, own)
			c.commit(t, own)
			behind := own[len(own) : len(own)+2]
			if string(behind[0].Value) != "1" || string(behind[1].Value) != "2" || behind[0].Key != "spare" || behind[1].Key != "spare" {
				t.Errorf("%s: behind the list stands %v", what, behind)
			}
			for i, x := range l {
				if own[i].Key != x.Key || own[i].Gone != x.Gone || !sample.Untouched(own[i].Value, x.Value) {
					t.Errorf("%s: the change %d is %v, want %v", what, i, own[i], x)
				}
			}
		}
	}
}

// Rule 4: changes that are handed in are not kept: who writes over them changes nothing.
func TestChangesAreNotKept(t *testing.T) {
	for what, l := range kinds() {
		c := paired(t, made(t, 12))
		own := spared(l)
		c.commit(t, own)
		for _, x := range own {
			sample.Overwrite(x.Value, 0xDD)
		}
		sample.Overwrite(own, put("other", "1"))
		c.same(t, what+", written over")
		for range 4 { // also where it moves then
			c.commit(t, []change{put("z", "1")})
		}
		c.again(t)
	}
}

// Rule 4: a key that is handed in is not kept, be it one over which somebody writes, as no key should be.
func TestKeysAreNotKept(t *testing.T) {
	c := paired(t, made(t, 8))
	own := []byte("key")
	for range 4 { // it moves twice
		checkError(t, "Commit", c.commit(t, []change{put(unsafe.String(&own[0], len(own)), "1")}), api.OK)
		copy(own, "new")
		c.same(t, "written over")
		copy(own, "key")
	}
}

// Rule 4: a key that is handed out is new memory.
func TestKeysAreNewMemory(t *testing.T) {
	key := string(sample.Text(20))
	c := paired(t, made(t, 8))
	seen := map[*byte]bool{unsafe.StringData(key): true}
	for range 6 { // it moves thrice
		checkError(t, "Commit", c.commit(t, []change{put(key, "1")}), api.OK)
		for _, l := range [][]string{c.s.Keys(""), c.s.Keys(key), opened(t, c.d).Keys("")} {
			if len(l) != 1 || l[0] != key || seen[unsafe.StringData(l[0])] {
				t.Errorf("the keys are %q, or lie where others do", l)
			}
			seen[unsafe.StringData(l[0])] = true
		}
	}
}

// Rule 4: what is handed out is new memory: who writes over it, its spare room too, changes neither the store nor what else was handed out.
func TestAnswersAreNewMemory(t *testing.T) {
	c := paired(t, made(t, 40))
	values := map[string]string{"a": "1", "b": string(sample.Text(300)), "c": "", "d": string(sample.Text(64))}
	for _, key := range slices.Sorted(maps.Keys(values)) {
		checkError(t, "Commit", c.commit(t, []change{put(key, values[key])}), api.OK)
	}
	for range 16 {
		for key, value := range values {
			b, _ := c.s.Get(key)
			again, _ := c.s.Get(key)
			_ = append(b, 0xDD)
			sample.Overwrite(b, 0xDD)
			if string(again) != value {
				t.Errorf("two answers of Get(%q) share memory", key)
			}
		}
		keys, again := c.s.Keys(""), c.s.Keys("")
		_ = append(keys, "other")
		sample.Overwrite(keys, "other")
		if !slices.Equal(again, []string{"a", "b", "c", "d"}) {
			t.Errorf("two answers of Keys share memory: %q", again)
		}
		c.same(t, "written over")
		if c.s.Left() < 4 {
			c = c.again(t)
		}
		checkError(t, "Commit", c.commit(t, []change{put("c", "2"), put("c", "")}), api.OK) // in the end it moves
	}
	if c.s.Moves() == 0 {
		t.Error("it did not move")
	}
}

// Rule 4: what is handed out stays as it is, whatever the store does then.
func TestAnswersStay(t *testing.T) {
	d := made(t, 12)
	s := opened(t, d)
	checkError(t, "Commit", s.Commit([]change{put("a", "old"), put("b", "")}), api.OK)
	a, _ := s.Get("a")
	keys := s.Keys("")
	for i := range 5 {
		checkError(t, "Commit", s.Commit([]change{put("a", "new"), gone("b"), put("c", string(sample.Text(i)))}), api.OK)
	}
	d.Fall([]disk.Fate{disk.Kept})
	if string(a) != "old" || !slices.Equal(keys, []string{"a", "b"}) {
		t.Errorf("the value is %q, the keys are %q", a, keys)
	}
}

// Rule 8: nothing of what is kept lies in an answer's spare room.
func TestNothingIsHandedOutBehind(t *testing.T) {
	d := made(t, 60)
	s := opened(t, d)
	for n := range 40 {
		checkError(t, "Commit", s.Commit([]change{put("k", string(sample.Ones(n*9))), put("l", "1")}), api.OK)
		for _, s := range []interface {
			Get(string) ([]byte, bool)
			Keys(string) []string
		}{s, opened(t, d)} {
			b, _ := s.Get("k")
			if behind := b[len(b):cap(b)]; bytes.Count(behind, []byte{0}) != len(behind) {
				t.Errorf("behind a value lies %x", behind)
			}
			keys := s.Keys("k")
			for _, x := range keys[len(keys):cap(keys)] {
				if x != "" {
					t.Errorf("behind the keys lies %q", x)
				}
			}
		}
	}
}

// Rule 5: the same calls come to the same answers and the same disk, in whatever order a map is gone through.
func TestSameAgain(t *testing.T) {
	var first *disk.Disk
	for range 20 {
		d := made(t, 16)
		s := opened(t, d)
		for i := range 12 {
			var l []change
			for k := range 12 {
				l = append(l, put(string(rune('a'+(k*5+i)%12)), string(sample.Text(i))))
			}
			checkError(t, "Commit", s.Commit(l), api.OK)
		}
		if s.Moves() == 0 {
			t.Error("it did not move")
		}
		if first == nil {
			first = d
		}
		sameDisks(t, "the same again", d, first)
	}
}
