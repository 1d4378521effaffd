package disk_test

import (
	"bytes"
	"math"
	"testing"

	"coffret/api"
	"coffret/disk"
	"coffret/sample"
)

// The constants, by number.
func TestConstants(t *testing.T) {
	if disk.Bytes != 256 || disk.Lost != -1 || disk.Kept != 256 {
		t.Errorf("Bytes %d, Lost %d, Kept %d", disk.Bytes, disk.Lost, disk.Kept)
	}
}

// The chapter's example 1.
func TestExample(t *testing.T) {
	d := made(t, 1)
	checkError(t, "Write", d.Write(0, []byte("xyz")), api.OK)
	d.Fall([]disk.Fate{1})
	checkSector(t, "Fall", d, 0, "x", "x")
	checkUnder(t, "Fall", d)
}

// P14.1: of numbers from 1 to MaxDisk so many sectors, each of zeros that are safe.
func TestNew(t *testing.T) {
	for _, n := range []int{1, 2, 3, 7, 8, 255, 256, 257, 1000, 2047, 2048} {
		d := made(t, n)
		if d.Sectors() != n || d.Down() || len(d.Under()) != 0 {
			t.Errorf("New(%d): %d sectors, down %v, under way %d", n, d.Sectors(), d.Down(), d.Under())
		}
		for i := range n {
			checkSector(t, "New", d, i, "", "")
		}
		for _, i := range noPlaces(n) {
			checkNoSector(t, "New", d, i)
		}
		checkError(t, "Write of the last", d.Write(n-1, sample.Ones(size)), api.OK)
		checkError(t, "Sync", d.Sync(), api.OK)
		checkSafe(t, "Sync", d, n-1, string(sample.Ones(size)))
		if n > 1 {
			checkSector(t, "beside it", d, n-2, "", "")
		}
	}
}

// P14.1: a new disk is not armed.
func TestNewIsNotArmed(t *testing.T) {
	d := made(t, 1)
	for range 1000 {
		checkError(t, "Write", d.Write(0, nil), api.OK)
		checkError(t, "Sync", d.Sync(), api.OK)
	}
}

// checkNoSector tells whether Write, Read and Safe refuse a number, and nothing is changed.
func checkNoSector(t *testing.T, what string, d *disk.Disk, i int) {
	t.Helper()
	under := len(d.Under())
	for _, b := range append(texts(), bigTexts()...) {
		if e := d.Write(i, b); e != api.ErrArg {
			t.Errorf("%s: Write(%d, %s): error %d", what, i, shown(b), int(e))
		}
	}
	if b, e := d.Read(i); e != api.ErrArg || len(b) != 0 {
		t.Errorf("%s: Read(%d): %s, error %d", what, i, shown(b), int(e))
	}
	if b, e := d.Safe(i); e != api.ErrArg || len(b) != 0 {
		t.Errorf("%s: Safe(%d): %s, error %d", what, i, shown(b), int(e))
	}
	if len(d.Under()) != under {
		t.Errorf("%s: behind Write(%d) under way are %d", what, i, d.Under())
	}
}

// P14.1: of other numbers there is none.
func TestNewOfOtherNumbers(t *testing.T) {
	for _, n := range []int{math.MinInt, math.MinInt32, -2048, -2, -1, 0, 2049, 2050, 4096, 1 << 16, math.MaxInt32, 1 << 32, 1<<32 + 1, math.MaxInt} {
		if d, e := disk.New(n); d != nil || e != api.ErrArg {
			t.Errorf("New(%d): %v, error %d", n, d, int(e))
		}
	}
}

// P14.1: disks have nothing in common.
func TestNewIsAnother(t *testing.T) {
	a, b := paired(t, 3), paired(t, 3)
	a.write(t, 1, []byte("ab"))
	b.same(t, "beside Write")
	a.sync(t)
	b.same(t, "beside Sync")
	a.arm(t, 0)
	checkError(t, "the other", b.write(t, 0, []byte("cd")), api.OK)
	checkError(t, "the armed", a.write(t, 0, []byte("ef")), api.ErrDown)
	b.same(t, "beside one that is down")
	b.fall(t, disk.Kept)
	a.same(t, "beside Fall")
}

// Rule 1: a nil disk, and a plain Disk{}, which stay so.
func TestNilAndPlainDisk(t *testing.T) {
	for what, d := range map[string]*disk.Disk{"nil": nil, "plain": {}} {
		for range 3 {
			for _, i := range append(places(2), noPlaces(1)...) {
				for _, b := range append(texts(), bigTexts()...) {
					checkError(t, what+": Write", d.Write(i, b), api.ErrNil)
				}
				if b, e := d.Read(i); e != api.ErrNil || len(b) != 0 {
					t.Errorf("%s: Read(%d): %s, error %d", what, i, shown(b), int(e))
				}
				if b, e := d.Safe(i); e != api.ErrNil || len(b) != 0 {
					t.Errorf("%s: Safe(%d): %s, error %d", what, i, shown(b), int(e))
				}
				d.Arm(i)
			}
			checkError(t, what+": Sync", d.Sync(), api.ErrNil)
			d.Arm(0)
			checkError(t, what+": Sync, armed", d.Sync(), api.ErrNil)
			checkError(t, what+": Write, armed", d.Write(0, nil), api.ErrNil)
			d.Fall(nil)
			d.Fall([]disk.Fate{disk.Kept, disk.Lost, 0, 7})
			if d.Down() || d.Sectors() != 0 || len(d.Under()) != 0 || d.Clone() != nil {
				t.Errorf("%s: down %v, %d sectors, under way %d, Clone %v", what, d.Down(), d.Sectors(), d.Under(), d.Clone())
			}
		}
	}
}

// states are disks of four sectors in all states: fresh, with writes under way and safe, armed, down by a Write and by a Sync, and fallen.
func states(t *testing.T) map[string]pair {
	t.Helper()
	written := paired(t, 4)
	for i, b := range [][]byte{[]byte("ab"), sample.Text(256), []byte("cd")} {
		written.write(t, i, b)
	}
	written.sync(t)
	under := written.clone()
	for _, i := range []int{0, 3, 0, 1, 0} {
		under.write(t, i, sample.Ones(10+len(under.d.Under())))
	}
	all := map[string]pair{"fresh": paired(t, 4), "written": written, "under way": under}
	for _, n := range []int{0, 1, 2, 5} {
		armed := under.clone()
		armed.arm(t, n)
		all["armed with "+string(rune('0'+n))] = armed
	}
	byWrite, bySync := all["armed with 0"].clone(), all["armed with 0"].clone()
	byWrite.write(t, 2, []byte("last"))
	bySync.sync(t)
	fallen := byWrite.clone()
	fallen.fall(t, 3, disk.Kept, disk.Lost, 5, disk.Kept, 2)
	all["down by Write"], all["down by Sync"], all["fallen"] = byWrite, bySync, fallen
	return all
}

// act does a few calls, all of which change something of a disk that is up.
func act(t *testing.T, c pair, with byte) {
	t.Helper()
	c.write(t, 1, []byte{with, 1})
	c.sync(t)
	c.write(t, 2, []byte{with, 2})
	c.write(t, 1, []byte{with, 3})
	c.write(t, 0, []byte{with, 4})
}

// P14.1: a clone is as the disk is, in whatever state, and both go on by themselves.
func TestClone(t *testing.T) {
	for what, c := range states(t) {
		other := c.clone()
		if other.d == c.d {
			t.Fatalf("%s: it is the same", what)
		}
		other.same(t, what+": cloned")
		for i, ends := range [][]disk.Fate{nil, {disk.Kept, disk.Kept, disk.Kept, disk.Kept, disk.Kept, disk.Kept, disk.Kept}, {1, 2, disk.Lost, 3, 4, 5, 6, 7, 8}} {
			one, two := c.clone(), c.clone().clone()
			act(t, one, byte(10+i))
			two.same(t, what+": beside calls of the other")
			one.fall(t, ends...)
			two.same(t, what+": beside a fall of the other")
			act(t, two, byte(20+i))
			one.same(t, what+": beside calls of the second")
			two.fall(t)
			one.sync(t)
			c.same(t, what+": it was only cloned")
			other.same(t, what+": it was only cloned")
		}
		act(t, c, 30)
		other.same(t, what+": beside calls of the first")
		act(t, other, 31)
		c.fall(t, disk.Kept, disk.Kept)
		other.fall(t, 1, 1)
	}
}

// P14.1: writes under way are those of each one alone, in the room behind those that both had too.
func TestCloneWithManyUnderWay(t *testing.T) {
	for n := range 20 {
		c := paired(t, 2)
		for k := range n {
			c.write(t, k%2, []byte{1, byte(k)})
		}
		a, b := c.clone(), c.clone()
		a.write(t, 0, []byte("a"))
		b.write(t, 0, []byte("b"))
		c.write(t, 0, []byte("c"))
		for _, x := range []pair{a, b, c} {
			x.same(t, "each")
		}
		a.fall(t)
		b.sync(t)
		c.same(t, "the first")
		c.sync(t)
		if x, _ := c.d.Safe(0); !bytes.Equal(x, filled([]byte("c"))) {
			t.Errorf("with %d: %s", n, shown(x))
		}
	}
}

// P14.1: a clone is armed with as many calls as are left.
func TestCloneIsArmed(t *testing.T) {
	for n := range 6 {
		for done := range n + 1 {
			c := paired(t, 1)
			c.arm(t, n)
			for range done {
				checkError(t, "Sync", c.sync(t), api.OK)
			}
			other := c.clone()
			for range n - done {
				checkError(t, "of the clone", other.sync(t), api.OK)
			}
			checkError(t, "the last of the clone", other.sync(t), api.ErrDown)
			if !other.d.Down() || c.d.Down() || !other.d.Clone().Down() {
				t.Errorf("armed with %d, %d done: the clone is down: %v, the disk %v", n, done, other.d.Down(), c.d.Down())
			}
			c.arm(t, -1)
			checkError(t, "not armed any more", c.sync(t), api.OK)
			other.same(t, "down")
		}
	}
}
