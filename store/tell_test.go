package store_test

import (
	"maps"
	"slices"
	"strings"
	"testing"

	"coffret/api"
	"coffret/disk"
	"coffret/sample"
	"coffret/store"
)

// checkNothing tells whether a store tells nothing of all that it is asked, and has stopped.
func checkNothing(t *testing.T, what string, s *store.Store) {
	t.Helper()
	for _, key := range []string{"", "a", string(sample.Text(96)), string(sample.Text(1000))} {
		if b, ok := s.Get(key); ok || len(b) != 0 {
			t.Errorf("%s: Get(%q): %q, %v", what, key, b, ok)
		}
		if l := s.Keys(key); len(l) != 0 {
			t.Errorf("%s: Keys(%q): %q", what, key, l)
		}
	}
	if s.Left() != 0 || s.Moves() != 0 || !s.Stopped() {
		t.Errorf("%s: Left %d, Moves %d, Stopped %v", what, s.Left(), s.Moves(), s.Stopped())
	}
}

// P15.3: of nil, or a plain Store{}, there is nothing, and it has stopped; a Commit makes no difference.
func TestTellOfNone(t *testing.T) {
	var none *store.Store
	plain := &store.Store{}
	for range 2 {
		checkNothing(t, "nil", none)
		checkNothing(t, "plain", plain)
		none.Commit([]change{put("a", "1")})
		plain.Commit([]change{put("a", "1")})
	}
}

// P15.3: the value and true, of no bytes too; none and false of a key that is not there, that is gone, or that never may be.
func TestGet(t *testing.T) {
	values := map[string]string{"a": "1", "ab": "", "\x00": "2", string(sample.Text(96)): string(sample.Text(300)), "b\x00": "\x00"}
	c := paired(t, made(t, 30))
	for key, value := range values {
		checkError(t, "Commit", c.commit(t, []change{put(key, value)}), api.OK)
	}
	checkError(t, "Commit", c.commit(t, []change{put("gone", "1")}), api.OK)
	checkError(t, "Commit", c.commit(t, []change{gone("gone"), gone("never")}), api.OK)
	for _, s := range []*store.Store{c.s, opened(t, c.d)} {
		checkValues(t, "Get", s, values)
		for _, key := range []string{"", "gone", "never", "A", "aa", "abc", "b", "\x00\x00", "b\x00\x00", string(sample.Text(95)), string(sample.Text(97)), string(make([]byte, 1<<20))} {
			if b, ok := s.Get(key); ok || len(b) != 0 {
				t.Errorf("Get(%.50q): %q, %v", key, b, ok)
			}
		}
	}
}

// P15.3: the keys that begin so, rising byte by byte, the shorter first; of no prefix all.
func TestKeys(t *testing.T) {
	keys := []string{"\x00", "\x00\x00", "\x7f", "\x80", "\xff", "\xff\xff", "A", "B", "a", "a/", "a/b", "a/b/c", "a/c", "a0", "aa", "b", "é", "Z"}
	for seed := range uint64(5) {
		c := paired(t, made(t, 60))
		for _, i := range chosen(seed).Perm(len(keys)) {
			checkError(t, "Commit", c.commit(t, []change{put(keys[i], keys[i])}), api.OK)
		}
		all := slices.Sorted(slices.Values(keys))
		for _, s := range []*store.Store{c.s, opened(t, c.d)} {
			for _, prefix := range append(slices.Clone(keys), "", "a/b/", "a/b/c", "a/b/cd", "ab", "\xc3", "\xfe", "0", string(make([]byte, 1000))) {
				var want []string
				for _, key := range all {
					if strings.HasPrefix(key, prefix) {
						want = append(want, key)
					}
				}
				if got := s.Keys(prefix); !slices.Equal(got, want) {
					t.Errorf("Keys(%.50q): %q, want %q", prefix, got, want)
				}
			}
		}
	}
}

// P15.3: the keys of no prefix, and of one, where some are gone.
func TestKeysThatAreGone(t *testing.T) {
	c := paired(t, made(t, 12))
	checkError(t, "Commit", c.commit(t, []change{put("b/y", ""), put("a", ""), put("b/x", ""), put("b", "")}), api.OK)
	checkError(t, "Commit", c.commit(t, []change{gone("b/y"), gone("a")}), api.OK)
	for prefix, want := range map[string][]string{"": {"b", "b/x"}, "b": {"b", "b/x"}, "b/": {"b/x"}, "b/x": {"b/x"}, "b/y": nil, "a": nil, "c": nil} {
		if got := c.s.Keys(prefix); !slices.Equal(got, want) {
			t.Errorf("Keys(%q): %q, want %q", prefix, got, want)
		}
	}
}

// P15.3: how many sectors of the half are behind the last record, and how often it moved.
func TestLeftAndMoves(t *testing.T) {
	d := made(t, 15)
	s := opened(t, d)
	for i, x := range []struct {
		l     []change
		left  int
		moves uint64
	}{
		{nil, 5, 0},
		{wide("a", 255), 3, 0},
		{[]change{put("", "")}, 3, 0},
		{wide("a", 256), 0, 0},
		{[]change{put("b", "1")}, 4, 1},
		{[]change{put("b", "2")}, 2, 1},
		{wide("c", 2000), 2, 1},
		{[]change{gone("a")}, 0, 1},
		{wide("c", 600), 3, 2},
		{filling("c", 3), 0, 2},
		{[]change{gone("b")}, 4, 3},
	} {
		s.Commit(x.l)
		for _, s := range []*store.Store{s, opened(t, d)} {
			if s.Left() != x.left || s.Moves() != x.moves {
				t.Errorf("%d: Left %d, Moves %d, want %d, %d", i, s.Left(), s.Moves(), x.left, x.moves)
			}
		}
	}
}

// P15.3: of one that has stopped all is told as it was before the commit that came to an error.
func TestTellOfStopped(t *testing.T) {
	for n := range 4 {
		d := made(t, 12)
		s := opened(t, d)
		checkError(t, "Commit", s.Commit([]change{put("a", "1"), put("b", "2")}), api.OK)
		if s.Stopped() {
			t.Error("it has stopped")
		}
		d.Arm(n)
		checkError(t, "Commit", s.Commit([]change{gone("a"), put("b", "3"), put("c", "4")}), api.ErrDown)
		for range 2 {
			checkValues(t, "it has stopped", s, map[string]string{"a": "1", "b": "2"})
			if !s.Stopped() || s.Left() != 2 || s.Moves() != 0 || !slices.Equal(s.Keys("b"), []string{"b"}) || len(s.Keys("c")) != 0 {
				t.Errorf("Stopped %v, Left %d, Moves %d, keys %q", s.Stopped(), s.Left(), s.Moves(), s.Keys(""))
			}
			d.Fall([]disk.Fate{disk.Kept}) // in the end the mark's, where that was under way
		}
		if made := n >= 2; made != hasValues(opened(t, d), map[string]string{"b": "3", "c": "4"}) {
			t.Errorf("Arm(%d): opened again it has %q", n, opened(t, d).Keys(""))
		}
	}
}

// P15.3: what is told changes nothing, and writes nothing, on a disk that would fall or that is down too.
func TestTellingChangesNothing(t *testing.T) {
	c := paired(t, made(t, 12))
	checkError(t, "Commit", c.commit(t, []change{put("a", "1"), put("b", "2")}), api.OK)
	c.arm(0)
	want := map[string]string{"a": "1", "b": "2"}
	for range 3 {
		c.same(t, "would fall")
		checkValues(t, "would fall", c.s, want)
	}
	c.d.Write(11, nil)
	c.p.d.Write(11, nil)
	c.same(t, "down")
	if c.s.Stopped() {
		t.Error("it has stopped, though it has met no error")
	}
	if !maps.Equal(want, c.p.values()) {
		t.Errorf("%v", c.p.values())
	}
}
