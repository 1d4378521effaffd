package disk_test

import (
	"math"
	"testing"

	"coffret/api"
	"coffret/disk"
	"coffret/sample"
)

// P14.3: so many calls are done, and the next one takes it down: a Write is under way all the same.
func TestArmThenWrite(t *testing.T) {
	for _, n := range []int{0, 1, 2, 3, 10, 300} {
		d := made(t, 2)
		d.Arm(n)
		for range n {
			checkError(t, "ahead of it", d.Write(1, []byte("ab")), api.OK)
			checkError(t, "Read does not count", readError(d, 1), api.OK)
			if d.Down() {
				t.Fatalf("Arm(%d): it is down early", n)
			}
		}
		checkError(t, "Write", d.Write(0, []byte("xyz")), api.ErrDown)
		if !d.Down() || len(d.Under()) != n+1 || d.Under()[n] != 0 {
			t.Errorf("Arm(%d): down %v, under way %d", n, d.Down(), d.Under())
		}
		checkError(t, "Read", readError(d, 1), api.ErrDown)
		checkSafe(t, "down", d, 0, "")
		d.Fall(append(make([]disk.Fate, n), disk.Kept))
		checkSector(t, "behind the fall", d, 0, "xyz", "xyz")
		checkSector(t, "behind the fall", d, 1, "", "")
	}
}

// P14.3: where the next one is a Sync, it is not done.
func TestArmThenSync(t *testing.T) {
	for _, n := range []int{0, 1, 2, 3, 10} {
		d := made(t, 2)
		d.Write(0, []byte("old"))
		d.Sync()
		d.Write(0, []byte("new"))
		d.Arm(n)
		for range n {
			checkError(t, "ahead of it", d.Write(1, []byte("ab")), api.OK)
		}
		checkError(t, "Sync", d.Sync(), api.ErrDown)
		if !d.Down() || len(d.Under()) != n+1 || d.Under()[0] != 0 {
			t.Errorf("Arm(%d): down %v, under way %d", n, d.Down(), d.Under())
		}
		checkSafe(t, "down", d, 0, "old")
		checkSafe(t, "down", d, 1, "")
		checkError(t, "Sync again", d.Sync(), api.ErrDown)
		d.Fall(nil)
		checkSector(t, "behind the fall", d, 0, "old", "old")
		checkSector(t, "behind the fall", d, 1, "", "")
	}
}

// P14.3: each Sync counts, with nothing under way too, and a Sync that is done is.
func TestArmCountsSyncs(t *testing.T) {
	for n := range 6 {
		c := paired(t, 1)
		c.arm(t, n)
		for range n {
			checkError(t, "ahead of it", c.sync(t), api.OK)
		}
		checkError(t, "the next one", c.sync(t), api.ErrDown)
	}
	d := made(t, 1)
	d.Arm(2)
	checkError(t, "Write", d.Write(0, []byte("ab")), api.OK)
	checkError(t, "Sync", d.Sync(), api.OK)
	checkSector(t, "Sync", d, 0, "ab", "ab")
	checkError(t, "Write", d.Write(0, []byte("cd")), api.ErrDown)
	checkUnder(t, "down", d, 0)
}

// P14.3: calls that tell an error do not count, and do not take it down; nor do those that only tell.
func TestArmCountsNoErrors(t *testing.T) {
	for n := range 4 {
		c := paired(t, 3)
		c.arm(t, n)
		for k := range n + 1 {
			for _, i := range noPlaces(3) {
				checkError(t, "no such sector", c.d.Write(i, []byte("ab")), api.ErrArg)
			}
			for _, b := range bigTexts() {
				checkError(t, "too many bytes", c.d.Write(1, b), api.ErrArg)
			}
			c.d.Clone().Sync()
			c.same(t, "errors")
			want := api.OK
			if k == n {
				want = api.ErrDown
			}
			checkError(t, "the next one", c.write(t, k%3, []byte("cd")), want)
		}
	}
}

// P14.3: armed anew, it counts from then on, be it more or less than was left.
func TestArmAnew(t *testing.T) {
	for n := range 4 {
		for done := range n + 1 {
			for again := range 5 {
				c := paired(t, 2)
				c.arm(t, n)
				for range done {
					checkError(t, "ahead of Arm", c.write(t, 0, nil), api.OK)
				}
				c.arm(t, again)
				for range again {
					checkError(t, "behind Arm", c.write(t, 1, nil), api.OK)
				}
				checkError(t, "the next one", c.sync(t), api.ErrDown)
			}
		}
	}
}

// P14.3: of a number below 0 it is not armed, or not any more.
func TestArmBelowZero(t *testing.T) {
	for _, n := range []int{-1, -2, -256, math.MinInt32, math.MinInt} {
		for _, ahead := range []int{-1, 0, 1, 2} {
			c := paired(t, 2)
			c.arm(t, ahead)
			c.arm(t, n)
			for k := range 300 {
				checkError(t, "Write", c.d.Write(k%2, []byte("ab")), api.OK)
				checkError(t, "Sync", c.d.Sync(), api.OK)
			}
			if c.d.Down() {
				t.Errorf("Arm(%d), Arm(%d): it is down", ahead, n)
			}
		}
	}
}

// P14.3: of great numbers it stays up for as long as a test may wait.
func TestArmOfGreatNumbers(t *testing.T) {
	for _, n := range []int{1 << 16, math.MaxInt32, 1 << 32, 1<<32 + 1, math.MaxInt - 1, math.MaxInt} {
		d := made(t, 1)
		d.Arm(n)
		for range 1000 {
			checkError(t, "Write", d.Write(0, []byte("ab")), api.OK)
			checkError(t, "Sync", d.Sync(), api.OK)
		}
	}
}

// P14.3: Arm of one that is down leaves it down, and behind the fall it is not armed.
func TestArmWhileDown(t *testing.T) {
	for _, what := range []string{"down by Write", "down by Sync"} {
		for _, n := range []int{math.MinInt, -1, 0, 1, 5, math.MaxInt} {
			c := states(t)[what]
			c.arm(t, n)
			checkError(t, what, c.write(t, 0, []byte("ab")), api.ErrDown)
			checkError(t, what, c.sync(t), api.ErrDown)
			if !c.d.Down() || !c.d.Clone().Down() {
				t.Errorf("%s, Arm(%d): it is up", what, n)
			}
			c.fall(t, disk.Kept)
			for range 10 {
				checkError(t, "behind the fall", c.write(t, 0, sample.Text(3)), api.OK)
				checkError(t, "behind the fall", c.sync(t), api.OK)
			}
		}
	}
}

// P14.3: while it is down nothing comes under way, and it stays so.
func TestStaysDown(t *testing.T) {
	d := made(t, 2)
	d.Write(1, []byte("ab"))
	d.Arm(0)
	d.Write(0, []byte("cd"))
	for range 5 {
		checkError(t, "Write", d.Write(0, []byte("ef")), api.ErrDown)
		checkError(t, "Sync", d.Sync(), api.ErrDown)
		checkError(t, "Read", readError(d, 0), api.ErrDown)
		checkUnder(t, "down", d, 1, 0)
		if !d.Down() {
			t.Error("it is up")
		}
	}
	d.Fall([]disk.Fate{disk.Kept, disk.Kept, disk.Kept, disk.Kept})
	checkSector(t, "behind the fall", d, 0, "cd", "cd")
	checkSector(t, "behind the fall", d, 1, "ab", "ab")
}

func readError(d *disk.Disk, i int) api.Errno {
	_, e := d.Read(i)
	return e
}
