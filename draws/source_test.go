package draws_test

import (
	"bytes"
	"fmt"
	"math"
	"testing"

	"coffret/api"
	"coffret/draws"
	"coffret/sample"
)

// P7.1, P7.2: of nil none, a zero Key, 0, nil, however often and whatever is asked.
func TestNilSource(t *testing.T) {
	var s *draws.Source
	for _, n := range []int{math.MinInt, -1, 0, 1, 32, api.MaxSized, api.MaxSized + 1, math.MaxInt} {
		checkTake(t, "nil", s, n, nil)
		if k := s.Key(); k != (api.Key{}) {
			t.Errorf("the key of nil: %x", k)
		}
		checkUsed(t, "nil", s, 0)
		if s.Clone() != nil {
			t.Error("a clone of nil")
		}
	}
}

// P7.1: a plain Source{} is as New of no texts, whatever it is asked first.
func TestPlainSource(t *testing.T) {
	want := plainBytes(nil, 200)
	for what, first := range map[string]func(s *draws.Source){
		"nothing": func(s *draws.Source) {},
		"Used":    func(s *draws.Source) { s.Used() },
		"Clone":   func(s *draws.Source) { s.Clone().Take(50) },
		"Take(0)": func(s *draws.Source) { s.Take(0) },
		"Take(-1)": func(s *draws.Source) {
			s.Take(-1)
			s.Take(math.MinInt)
		},
	} {
		s := &draws.Source{}
		first(s)
		checkUsed(t, what, s, 0)
		checkTake(t, what, s, 5, want[:5])
		checkKey(t, what, s, want[5:37])
		checkTake(t, what, s, 163, want[37:])

		s = &draws.Source{}
		first(s)
		checkKey(t, what+", then a key", s, want[:32])
		checkTake(t, what+", then a key", s, 100, want[32:132])
	}
	checkTake(t, "as much as may be", new(draws.Source), math.MaxInt, plainBytes(nil, api.MaxSized))
}

// P7.2: at any time; the one and the other then go on alike, and by themselves, whichever is asked first.
func TestCloneAnywhere(t *testing.T) {
	for _, l := range lists() {
		size := sizeOf(l)
		want := plainBytes(l, size+300)
		for at := range size + 100 {
			what := fmt.Sprintf("%x, a clone at %d", l, at)
			s := draws.New(l...)
			s.Take(at)
			u := s.Clone()
			if u == nil || u == s {
				t.Fatalf("%s: it is no other one", what)
			}
			checkUsed(t, what, u, at)
			checkUsed(t, what, s, at)
			checkTake(t, what, s, 40, want[at:at+40])
			checkUsed(t, what, u, at)
			checkKey(t, what, u, want[at:at+32])
			checkUsed(t, what, s, at+40)
			checkTake(t, what, u, 70, want[at+32:at+102])
			checkTake(t, what, s, 62, want[at+40:at+102])
			checkTake(t, what, u, 1, want[at+102:at+103])
			checkKey(t, what, s, want[at+102:at+134])
		}
	}
}

// P7.2: a clone of a clone, and one of a plain Source{}.
func TestCloneOfClone(t *testing.T) {
	l := [][]byte{[]byte("abc"), sample.Text(40)}
	want := plainBytes(l, 300)
	s := draws.New(l...)
	for at := 0; at < 200; at += 7 {
		u := s.Clone()
		checkTake(t, "the one that is left", s, 90, want[at:at+90])
		s = u.Clone()
		checkTake(t, "the one between", u, 90, want[at:at+90])
		checkTake(t, "the clone of the clone", s, 7, want[at:at+7])
	}

	none := plainBytes(nil, 100)
	var p draws.Source
	u := p.Clone()
	if u == nil || u == &p {
		t.Fatal("a plain Source{} has no clone")
	}
	checkTake(t, "a plain one's clone", u, 50, none[:50])
	checkUsed(t, "a plain one", &p, 0)
	checkTake(t, "a plain one", &p, 100, none)
	checkTake(t, "a plain one's clone", u, 50, none[50:])
}

// P7.1: sources that are made apart know nothing of each other, though of the same texts.
func TestSourcesApart(t *testing.T) {
	text := sample.Text(50)
	want := plainBytes([][]byte{text}, 150)
	a, b := draws.New(text), draws.New(text)
	for at := range 150 {
		checkTake(t, "the one", a, 1, want[at:at+1])
		checkUsed(t, "the other", b, at)
		checkTake(t, "the other", b, 1, want[at:at+1])
	}
}

// Rules 4 and 8: the texts, and their spare room, are as they were, and what lies there is not read.
func TestNewTouchesNothing(t *testing.T) {
	for _, n := range []int{0, 1, 31, 32, 33, 64, 200} {
		first, second := sample.Spared(sample.Text(n)), sample.Spared(sample.Ones(n))
		spare := [][]byte{first, second, []byte("not handed in")}
		l := spare[:2]
		s := draws.New(l...)
		checkTake(t, "with spare room", s, 2*n+100, plainBytes([][]byte{sample.Text(n), sample.Ones(n)}, 2*n+100))
		s.Key()
		s.Clone().Take(100)
		if !sample.Untouched(first, sample.Text(n)) || !sample.Untouched(second, sample.Ones(n)) {
			t.Errorf("texts of %d bytes were written: %x, %x", n, first, second)
		}
		if len(l[0]) != n || len(l[1]) != n || string(spare[2]) != "not handed in" {
			t.Errorf("the list of texts was written: %x", spare)
		}
	}
}

// Rule 4: the texts, and the list of them, are not kept: who changes them then changes nothing, before and behind the first bytes.
func TestNewKeepsNothing(t *testing.T) {
	for _, parts := range [][]int{{1}, {40}, {3, 0, 40}, {100, 100}} {
		for from := range 60 {
			var l, like [][]byte
			for _, n := range parts {
				l, like = append(l, sample.Text(n)), append(like, sample.Text(n))
			}
			want := plainBytes(like, 400)
			s := draws.New(l...)
			u := s.Clone()
			s.Take(from)
			for i, x := range l {
				clear(x)
				l[i] = []byte("another")
			}
			what := fmt.Sprintf("texts of %v bytes, changed behind %d", parts, from)
			checkTake(t, what, s, 400-from, want[from:])
			checkTake(t, what+", a clone", u, 400, want)
		}
	}
}

// Rule 4: bytes and keys that were told are new memory, their spare room too: who changes them then changes nothing.
func TestTakeHandsOutNewMemory(t *testing.T) {
	l := [][]byte{sample.Text(90)}
	want := plainBytes(l, 900)
	for n := 1; n < 100; n++ {
		s := draws.New(l...)
		u := s.Clone()
		at := 0
		for ; at < 300; at += 2*n + 32 {
			first := s.Take(n)
			second := s.Take(n)
			k := s.Key()
			all := first[:cap(first)]
			for i := range all {
				all[i] = '!'
			}
			if !bytes.Equal(second, want[at+n:at+2*n]) || !bytes.Equal(k[:], want[at+2*n:at+2*n+32]) {
				t.Fatalf("what %d bytes share at %d: %x, %x", n, at, second, k)
			}
			clear(second[:cap(second)])
			clear(k[:])
		}
		checkTake(t, "behind what was changed", s, 50, want[at:at+50])
		checkTake(t, "a clone from before", u, 400, want[:400])
		checkTake(t, "the same texts", draws.New(l...), 400, want[:400])
	}
}

// P7.1: New of the very bytes that a source told, which it doesn't take along.
func TestNewOfWhatWasTold(t *testing.T) {
	s := draws.New([]byte("ab"))
	told := s.Take(50)
	u := draws.New(told)
	checkUsed(t, "the new one", u, 0)
	checkTake(t, "the new one", u, 100, plainBytes([][]byte{plainBytes([][]byte{[]byte("ab")}, 50)}, 100))
	checkTake(t, "the old one", s, 50, plainBytes([][]byte{[]byte("ab")}, 100)[50:])
}
