package disk_test

import (
	"testing"

	"coffret/api"
	"coffret/disk"
	"coffret/sample"
)

// P14.4: of one write becomes what its fate says, and behind what is kept stands what was safe.
func TestFallOfOne(t *testing.T) {
	old := string(sample.Ones(size))
	for _, f := range fates() {
		for _, b := range texts() {
			d := made(t, 2)
			d.Write(1, []byte(old))
			d.Sync()
			d.Write(1, b)
			d.Fall([]disk.Fate{f})
			kept := 0
			if f > 0 {
				kept = int(min(f, 256))
			}
			want := string(filled(b)[:kept]) + old[kept:]
			checkSector(t, "the fallen", d, 1, want, want)
			checkSector(t, "beside it", d, 0, "", "")
			checkUnder(t, "Fall", d)
			if d.Down() {
				t.Error("it is down")
			}
		}
	}
}

// P14.4: zeros behind a short write are as much of it as its bytes.
func TestFallKeepsZerosBehind(t *testing.T) {
	for n := range 257 {
		d := made(t, 1)
		d.Write(0, sample.Ones(size))
		d.Sync()
		d.Write(0, []byte("ab"))
		d.Fall([]disk.Fate{disk.Fate(n)})
		want := string(filled([]byte("ab"))[:n]) + string(sample.Ones(size)[n:])
		checkSector(t, "zeros", d, 0, want, want)
	}
}

// P14.4: of fewer fates than writes the last writes are lost, and of more the last fates count for nothing.
func TestFallOfOtherNumbers(t *testing.T) {
	for writes := range 6 {
		for count := range 9 {
			d := made(t, 6)
			var l []disk.Fate
			for i := range writes {
				d.Write(5-i, []byte{'a', byte(i)})
			}
			for range count {
				l = append(l, disk.Kept)
			}
			d.Fall(l)
			for i := range 6 {
				want := ""
				if i < writes && i < count {
					want = string([]byte{'a', byte(i)})
				}
				checkSector(t, "Fall", d, 5-i, want, want)
			}
			checkUnder(t, "Fall", d)
		}
	}
}

// P14.4: what lies behind the fates' length is none.
func TestFallReadsNothingBehind(t *testing.T) {
	l := []disk.Fate{disk.Kept, disk.Kept, disk.Kept, disk.Kept}
	for n := range 5 {
		c := paired(t, 4)
		for i := range 4 {
			c.write(t, i, []byte("ab"))
		}
		c.fall(t, l[:n]...)
	}
	c := paired(t, 1)
	c.write(t, 0, []byte("ab"))
	c.fall(t)
	c.fall(t, disk.Kept)
	checkSector(t, "lost", c.d, 0, "", "")
}

// P14.4: of several writes of a sector each has its own fate, and stands over what the ones ahead left.
func TestFallOfSeveralOfOneSector(t *testing.T) {
	for _, x := range []struct {
		fates []disk.Fate
		want  string
	}{
		{[]disk.Fate{disk.Kept, disk.Kept, disk.Kept}, "33"},
		{[]disk.Fate{disk.Kept, disk.Kept}, "222"},
		{[]disk.Fate{disk.Kept}, "1111"},
		{nil, "00000"},
		{[]disk.Fate{disk.Lost, disk.Lost, disk.Kept}, "33"},
		{[]disk.Fate{disk.Kept, disk.Lost, 1}, "3111"},
		{[]disk.Fate{disk.Kept, 2, 1}, "3211"},
		{[]disk.Fate{3, 2, 1}, "32100"},
		{[]disk.Fate{1, 2, 3}, "33\x0000"},
		{[]disk.Fate{4, 3, -7}, "22210"},
		{[]disk.Fate{disk.Lost, 1}, "20000"},
		{[]disk.Fate{0, 0, 0}, "00000"},
		{[]disk.Fate{4, 999, 0}, "222"},
	} {
		d := made(t, 1)
		d.Write(0, []byte("00000"))
		d.Sync()
		for _, b := range []string{"1111", "222", "33"} {
			d.Write(0, []byte(b))
		}
		d.Fall(x.fates)
		checkSector(t, "Fall", d, 0, x.want, x.want)
	}
}

// P14.4: fates go with writes, not with sectors, in the order of the writes.
func TestFallInTheOrderOfWrites(t *testing.T) {
	d := made(t, 3)
	for _, w := range []struct {
		at   int
		text string
	}{{2, "abc"}, {0, "def"}, {2, "gh"}, {1, "ijk"}, {0, "l"}} {
		d.Write(w.at, []byte(w.text))
	}
	checkUnder(t, "ahead of the fall", d, 2, 0, 2, 1, 0)
	d.Fall([]disk.Fate{3, 2, 1, 0, disk.Lost, disk.Kept})
	checkSector(t, "Fall", d, 0, "de", "de")
	checkSector(t, "Fall", d, 1, "", "")
	checkSector(t, "Fall", d, 2, "gbc", "gbc")
}

// P14.4: any two fates of two writes of one sector, and of two sectors.
func TestFallOfTwo(t *testing.T) {
	for _, f := range fates() {
		for _, g := range fates() {
			for other := range 2 {
				c := paired(t, 2)
				c.write(t, 0, sample.Ones(5))
				c.write(t, other, sample.Text(256))
				c.fall(t, f, g)
			}
		}
	}
}

// P14.4: behind a fall it is up, not armed, and none is under way, in whatever state it was.
func TestBehindFall(t *testing.T) {
	for what, ahead := range states(t) {
		for _, l := range [][]disk.Fate{nil, {disk.Kept}, {1, 2, 3, 4, 5, 6, 7}} {
			c := ahead.clone()
			c.fall(t, l...)
			checkUnder(t, what, c.d)
			for range 10 {
				checkError(t, what, c.write(t, 3, []byte("ab")), api.OK)
				checkError(t, what, c.sync(t), api.OK)
			}
			c.fall(t, l...)
			c.fall(t)
			checkSector(t, what, c.d, 3, "ab", "ab")
		}
	}
}

// P14.4: what became safe stays so through falls, whatever their fates.
func TestSafeStays(t *testing.T) {
	for _, f := range fates() {
		d := made(t, 2)
		d.Write(0, []byte("ab"))
		d.Sync()
		d.Fall([]disk.Fate{f, f})
		d.Write(1, []byte("cd"))
		d.Fall([]disk.Fate{f, f})
		checkSector(t, "safe", d, 0, "ab", "ab")
	}
}

// P14.4: Under tells a sector as often as it was written, whatever it was written with.
func TestUnder(t *testing.T) {
	d := made(t, 4)
	checkUnder(t, "fresh", d)
	var want []int
	for k := range 40 {
		i := k * k % 4
		if k%7 == 0 {
			i = 3
		}
		d.Write(i, sample.Text(k%3))
		want = append(want, i)
		checkUnder(t, "Write", d, want...)
		d.Read(i)
		d.Safe(i)
		d.Write(4, nil)
		d.Write(0, sample.Text(257))
		checkUnder(t, "what changes nothing", d, want...)
	}
	d.Sync()
	checkUnder(t, "Sync", d)
	d.Write(2, nil)
	checkUnder(t, "behind Sync", d, 2)
}
