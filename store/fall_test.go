package store_test

import (
	"fmt"
	"maps"
	"slices"
	"testing"

	"coffret/api"
	"coffret/disk"
	"coffret/sample"
	"coffret/store"
)

// fates are those of a write, at the edges of what a mark's sector has, and about them.
func fates() []disk.Fate {
	return []disk.Fate{disk.Lost, 0, 1, 4, 12, 20, 63, 64, 65, 128, 192, 193, 247, 248, 255, disk.Kept}
}

// fewFates are every kind of them.
func fewFates() []disk.Fate {
	return []disk.Fate{disk.Lost, 0, 64, 200, disk.Kept}
}

// everyFate calls use with each list of so many fates.
func everyFate(n int, from []disk.Fate, use func(l []disk.Fate)) {
	if n == 0 {
		use(nil)
		return
	}
	everyFate(n-1, from, func(l []disk.Fate) {
		for _, f := range from {
			use(append(slices.Clone(l), f))
		}
	})
}

// plays are commits, one behind the other, on a disk of so many sectors.
func plays() map[string]struct {
	sectors int
	l       [][]change
} {
	return map[string]struct {
		sectors int
		l       [][]change
	}{
		"small ones": {12, [][]change{{put("a", "1")}, {put("b", "2"), gone("a")}, {put("a", "3")}, {put("b", "4"), put("c", "5")}, {gone("b")}}},
		"two sectors behind the mark": {15, [][]change{{put("a", string(sample.Text(300))), put("b", "1")}, {put("b", string(sample.Text(400))), gone("a")},
			{put("c", string(sample.Text(20))), put("b", "2"), put("d", string(sample.Text(300)))}, {put("b", string(sample.Ones(40)))}}},
		"it moves each time": {9, [][]change{{put("a", "1"), put("b", string(sample.Text(200)))}, {put("b", string(sample.Text(300)))}, {put("b", string(sample.Text(310))), put("a", "2")}, {put("b", string(sample.Text(310))), gone("a")}, {put("a", "3")}}},
		"the same again":     {10, [][]change{{put("a", "1")}, {put("a", "1")}, {put("a", "1")}, {put("a", "1")}, {put("a", "2")}, {put("a", "2")}}},
	}
}

// fallen lets a play go on on a new disk until the disk goes down at the call behind so many. It tells the disk, the values that are told to be made, and these with those of the commit that was being made.
func fallen(t *testing.T, sectors int, l [][]change, n int) (*disk.Disk, map[string]string, map[string]string) {
	t.Helper()
	d := made(t, sectors)
	d.Arm(n)
	want := map[string]string{}
	s, e := store.Open(d)
	if e != api.OK {
		return d, want, want
	}
	for _, x := range l {
		more := maps.Clone(want)
		plainMake(more, x)
		if e := s.Commit(x); e != api.OK {
			checkError(t, "Commit", e, api.ErrDown)
			return d, want, more
		}
		want = more
	}
	return d, want, want
}

// callsOf is how many calls of Write and Sync a play has.
func callsOf(t *testing.T, sectors int, l [][]change) int {
	t.Helper()
	for n := range 200 {
		if d, _, _ := fallen(t, sectors, l, n); !d.Down() {
			return n
		}
	}
	t.Fatal("the play has more calls than it may have")
	return 0
}

// P15.4: a fall at every call of Write and Sync, of Open, of commits, of those that move the store: whatever becomes of what was under way, Open has all that was told to be made, or that and all of the one that was being made.
func TestFalls(t *testing.T) {
	for what, x := range plays() {
		old, all := 0, 0
		for n := range callsOf(t, x.sectors, x.l) {
			d, want, more := fallen(t, x.sectors, x.l, n)
			from := fates()
			if len(d.Under()) > 2 {
				from = fewFates()
			}
			everyFate(len(d.Under()), from, func(l []disk.Fate) {
				other := d.Clone()
				other.Fall(l)
				c := paired(t, other)
				switch {
				case hasValues(c.s, more):
					all++
				case hasValues(c.s, want):
					old++
				default:
					t.Errorf("%s, Arm(%d), Fall(%d): %q", what, n, l, c.s.Keys(""))
				}
				checkGoesOn(t, fmt.Sprintf("%s, Arm(%d), Fall(%d)", what, n, l), c)
			})
		}
		if old < 50 || all < 50 {
			t.Errorf("%s: %d times the values were the old ones, %d times the new ones", what, old, all)
		}
	}
}

// checkGoesOn tells whether a store that was opened goes on as it must.
func checkGoesOn(t *testing.T, what string, c pair) {
	t.Helper()
	for i := range 3 {
		checkError(t, what, c.commit(t, []change{put("x", fmt.Sprint(i))}), api.OK)
	}
	checkValues(t, what, c.again(t).s, c.p.values())
}

// P15.4: a mark that is safe is all that is asked for: a commit whose disk falls at its last Sync is made, if the mark is kept, and is not, if that is lost or torn.
func TestTheMarkTells(t *testing.T) {
	for _, sectors := range []int{14, 10} { // of 10 sectors it moves
		for _, fate := range fates() {
			d := made(t, sectors)
			s := opened(t, d)
			checkError(t, "Commit", s.Commit([]change{put("a", "1")}), api.OK)
			d.Arm(4)
			checkError(t, "Commit", s.Commit([]change{put("a", "2"), put("b", string(sample.Text(300)))}), api.ErrDown)
			d.Fall([]disk.Fate{fate})
			want := map[string]string{"a": "1"}
			if fate >= 248 { // the mark's last eight bytes are zeros, as what was there
				want = map[string]string{"a": "2", "b": string(sample.Text(300))}
			}
			checkValues(t, fmt.Sprintf("of %d sectors, fate %d", sectors, fate), opened(t, d), want)
		}
	}
}

// P15.4: the sectors behind a mark are safe ahead of it: a mark is under way alone.
func TestTheMarkIsLast(t *testing.T) {
	for what, x := range plays() {
		for n := range callsOf(t, x.sectors, x.l) {
			d, _, _ := fallen(t, x.sectors, x.l, n)
			under := d.Under()
			d.Fall(slices.Repeat([]disk.Fate{disk.Kept}, len(under)))
			for _, i := range under {
				if b, _ := d.Safe(i); b[0] == 1 && len(under) > 1 || b[0] != 1 && b[0] != 2 {
					t.Errorf("%s, Arm(%d): under way are %d, the sector %d is %x", what, n, under, i, sample.Some(b))
				}
			}
		}
	}
}

// P15.4: falls behind falls: what told no error is there, and what was under way wholly or not at all; held against the chapter taken word by word.
func TestFallsBehindFalls(t *testing.T) {
	came := map[api.Errno]int{}
	old, all, moves := 0, 0, uint64(0)
	for seed := range uint64(150) {
		r := chosen(seed)
		c := paired(t, made(t, 8+r.IntN(14)))
		for range 30 {
			c.arm(r.IntN(24) - 4)
			want := c.p.values()
			more := maps.Clone(want)
			for range 1 + r.IntN(6) {
				l := someChanges(r.IntN)
				e := c.commit(t, l)
				came[e]++
				if e == api.ErrDown {
					plainMake(more, l)
				}
				if e == api.OK {
					plainMake(want, l)
					more = maps.Clone(want)
				}
			}
			c.fall(someFates(r.IntN)...)
			c = c.again(t)
			switch {
			case hasValues(c.s, want):
				old++
			case hasValues(c.s, more):
				all++
			default:
				t.Errorf("behind the fall: %q", c.s.Keys(""))
			}
		}
		moves += c.s.Moves()
	}
	if came[api.OK] < 2000 || came[api.ErrDown] < 500 || came[api.ErrFull] < 50 || came[api.ErrState] < 500 || old < 500 || all < 100 || moves < 1000 {
		t.Errorf("the plays came to %v, %d old ones, %d new ones, %d moves", came, old, all, moves)
	}
}

func someFates(number func(int) int) []disk.Fate {
	l := make([]disk.Fate, number(8))
	for i := range l {
		l[i] = fates()[number(len(fates()))]
	}
	return l
}

// someChanges are changes of a few keys, about the sizes at which a record has one sector more.
func someChanges(number func(int) int) []change {
	var l []change
	for range number(4) {
		c := change{Key: string(rune('a' + number(5))), Gone: number(4) == 0}
		switch number(4) {
		case 0:
			c.Value = sample.Text(255*number(3) + 235 + number(20))
		case 1:
			c.Value = sample.Ones(number(300))
		case 2:
			c.Value = sample.Text(number(5))
		}
		l = append(l, c)
	}
	return l
}
