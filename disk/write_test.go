package disk_test

import (
	"testing"

	"coffret/api"
	"coffret/disk"
	"coffret/sample"
)

// P14.2: what is written is read at once, with zeros behind, and safe behind a Sync, at the first sector, at the last, and between.
func TestWriteReadSync(t *testing.T) {
	for _, n := range []int{1, 2, 5} {
		for i := range n {
			for _, b := range texts() {
				d := made(t, n)
				checkError(t, "Write", d.Write(i, b), api.OK)
				checkSector(t, "Write", d, i, string(b), "")
				checkUnder(t, "Write", d, i)
				checkError(t, "Sync", d.Sync(), api.OK)
				checkSector(t, "Sync", d, i, string(b), string(b))
				checkUnder(t, "Sync", d)
				for other := range n {
					if other != i {
						checkSector(t, "beside", d, other, "", "")
					}
				}
			}
		}
	}
}

// P14.2: the first and the last sector of a disk as great as may be.
func TestGreatestDisk(t *testing.T) {
	d := made(t, api.MaxDisk)
	for i := range api.MaxDisk {
		checkError(t, "Write", d.Write(i, []byte{byte(i), byte(i >> 8), 1}), api.OK)
	}
	for _, i := range noPlaces(api.MaxDisk) {
		checkNoSector(t, "the greatest", d, i)
	}
	checkUnder(t, "all", d, places(api.MaxDisk)...)
	checkError(t, "Sync", d.Sync(), api.OK)
	for i := range api.MaxDisk {
		want := string([]byte{byte(i), byte(i >> 8), 1})
		checkSector(t, "the greatest", d, i, want, want)
	}
}

// P14.2: one below the first sector, one beyond the last, and others that there are not.
func TestNoSuchSector(t *testing.T) {
	for what, c := range states(t) {
		for _, i := range noPlaces(4) {
			for _, b := range append(texts(), bigTexts()...) {
				want := api.ErrArg
				if c.p.down {
					want = api.ErrDown
				}
				checkError(t, what, c.d.Write(i, b), want)
			}
		}
		c.same(t, what)
	}
}

// P14.2: more bytes than a sector has are not written, not those that it has either.
func TestWriteOfTooMany(t *testing.T) {
	for what, c := range states(t) {
		if c.p.down {
			continue
		}
		for i := range 4 {
			for _, b := range bigTexts() {
				checkError(t, what, c.write(t, i, b), api.ErrArg)
			}
		}
		want := c.p.clone().write(3, nil)
		checkError(t, what, c.write(t, 3, sample.Text(256)), want)
	}
}

// P14.2: a shorter text leaves nothing of a longer one, under way or safe.
func TestWriteOverLonger(t *testing.T) {
	for _, long := range texts() {
		for _, short := range texts() {
			c := paired(t, 2)
			c.write(t, 1, long)
			c.write(t, 1, short)
			checkSector(t, "under way", c.d, 1, string(short), "")
			c.sync(t)
			checkSector(t, "safe", c.d, 1, string(short), string(short))
			c.write(t, 1, long)
			checkSector(t, "over what is safe", c.d, 1, string(long), string(short))
			c.sync(t)
			c.write(t, 1, short)
			c.sync(t)
			checkSector(t, "safe again", c.d, 1, string(short), string(short))
		}
	}
}

// P14.2: Read tells the last of several writes of a sector, Safe none of them, and a Sync lets them be safe in their order.
func TestSeveralWrites(t *testing.T) {
	d := made(t, 3)
	for i, b := range []string{"old0", "old1", "old2"} {
		d.Write(i, []byte(b))
	}
	d.Sync()
	for _, w := range []struct {
		at   int
		text string
	}{{1, "first"}, {2, "z"}, {1, "second"}, {0, "y"}, {1, "3rd"}, {0, ""}} {
		checkError(t, "Write", d.Write(w.at, []byte(w.text)), api.OK)
		checkSector(t, "under way", d, w.at, w.text, "old"+string(rune('0'+w.at)))
	}
	checkUnder(t, "under way", d, 1, 2, 1, 0, 1, 0)
	checkSector(t, "under way", d, 0, "", "old0")
	checkSector(t, "under way", d, 1, "3rd", "old1")
	checkSector(t, "under way", d, 2, "z", "old2")
	checkError(t, "Sync", d.Sync(), api.OK)
	checkUnder(t, "Sync", d)
	checkSector(t, "Sync", d, 0, "", "")
	checkSector(t, "Sync", d, 1, "3rd", "3rd")
	checkSector(t, "Sync", d, 2, "z", "z")
}

// P14.2: a Sync with none under way is one, and changes nothing.
func TestSyncOfNone(t *testing.T) {
	c := paired(t, 2)
	for range 3 {
		checkError(t, "of none", c.sync(t), api.OK)
	}
	c.write(t, 1, []byte("ab"))
	checkError(t, "of one", c.sync(t), api.OK)
	for range 3 {
		checkError(t, "of none again", c.sync(t), api.OK)
	}
	checkSector(t, "at last", c.d, 1, "ab", "ab")
	c.fall(t, disk.Lost)
	checkSector(t, "behind a fall", c.d, 1, "ab", "ab")
}

// P14.2: writes that are under way in any order of sectors, often the same one, held against the plain disk.
func TestManyWritesUnderWay(t *testing.T) {
	for seed := range uint64(20) {
		r := chosen(seed)
		c := paired(t, 5)
		for k := range 60 {
			c.write(t, r.IntN(5), sample.Text(256)[k:][:r.IntN(196)])
			if r.IntN(25) == 0 {
				c.sync(t)
			}
		}
		c.sync(t)
		c.write(t, 4, nil)
		c.fall(t)
	}
}

// P14.2: a disk that is down tells ErrDown of all but Safe, and ahead of ErrArg.
func TestDownAheadOfArg(t *testing.T) {
	for _, what := range []string{"down by Write", "down by Sync"} {
		c := states(t)[what]
		for _, i := range append(places(4), noPlaces(4)...) {
			for _, b := range append(texts(), bigTexts()...) {
				checkError(t, what+": Write", c.d.Write(i, b), api.ErrDown)
			}
			if b, e := c.d.Read(i); e != api.ErrDown || len(b) != 0 {
				t.Errorf("%s: Read(%d): %s, error %d", what, i, shown(b), int(e))
			}
			checkError(t, what+": Sync", c.d.Sync(), api.ErrDown)
			_, e := c.d.Safe(i)
			if want := c.p.has(i); want != (e == api.OK) || !want && e != api.ErrArg {
				t.Errorf("%s: Safe(%d): error %d", what, i, int(e))
			}
		}
		c.same(t, what)
	}
}
