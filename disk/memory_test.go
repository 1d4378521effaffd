package disk_test

import (
	"bytes"
	"slices"
	"testing"

	"coffret/api"
	"coffret/disk"
	"coffret/sample"
)

// Rules 4 and 8: bytes that are handed in are as they were, their spare room too, and that is not read.
func TestBytesAreNotTouched(t *testing.T) {
	for _, b := range append(texts(), bigTexts()...) {
		own := sample.Spared(b)
		c := paired(t, 2)
		for _, n := range []int{-1, 2, 0} {
			c.arm(t, n)
			c.write(t, 1, own)
			c.write(t, 2, own)
			c.sync(t)
			c.fall(t, disk.Kept)
		}
		if !sample.Untouched(own, b) {
			t.Errorf("%s were touched", shown(b))
		}
	}
}

// Rule 4: bytes that are handed in are not kept: who writes over them changes nothing, under way or safe.
func TestBytesAreNotKept(t *testing.T) {
	for _, b := range texts() {
		own := sample.Spared(b)
		c := paired(t, 3)
		for i := range 3 {
			c.write(t, i, own)
		}
		sample.Overwrite(own, 0xDD)
		c.same(t, "under way")
		c.fall(t, disk.Kept, 3)
		own = sample.Spared(b)
		c.write(t, 2, own)
		c.sync(t)
		sample.Overwrite(own, 0xDD)
		c.same(t, "safe")
	}
}

// Rule 4: fates that are handed in are as they were, and not kept.
func TestFatesAreNotTouched(t *testing.T) {
	own := fates()
	c := paired(t, 4)
	for k := range len(own) + 3 {
		c.write(t, k%4, sample.Text(k))
	}
	short := own[:len(own)-2]
	c.d.Fall(short)
	c.p.fall(fates()[:len(own)-2])
	c.same(t, "Fall")
	if !slices.Equal(own, fates()) {
		t.Errorf("the fates are %d", own)
	}
	sample.Overwrite(short, 0)
	c.same(t, "written over")
	c.write(t, 0, []byte("ab"))
	c.fall(t)
}

// Rule 4: what is handed out is new memory: who writes over it, its spare room too, changes neither the disk, nor a clone, nor what else was handed out.
func TestAnswersAreNewMemory(t *testing.T) {
	for what, c := range states(t) {
		other := c.clone()
		for i := range 4 {
			read, e := c.d.Read(i)
			again, _ := c.d.Read(i)
			safe, _ := c.d.Safe(i)
			safeAgain, _ := c.d.Safe(i)
			_ = append(read, 0xDD)
			sample.Overwrite(read, 0xDD)
			sample.Overwrite(safe, 0xDD)
			wantRead, _ := c.p.read(i)
			wantSafe, _ := c.p.safe(i)
			if !bytes.Equal(again, wantRead) || !bytes.Equal(safeAgain, wantSafe) {
				t.Errorf("%s: two answers of the sector %d share memory, error %d", what, i, int(e))
			}
			c.same(t, what+": written over")
			other.same(t, what+": the clone's")
		}
		under, again := c.d.Under(), c.d.Under()
		_ = append(under, 99)
		sample.Overwrite(under, 99)
		if !slices.Equal(again, c.p.sectorsUnder()) {
			t.Errorf("%s: two answers of Under share memory", what)
		}
		c.same(t, what+": Under written over")
		other.same(t, what+": the clone's, Under written over")
		if !c.p.down {
			c.write(t, 2, []byte("more"))
			c.fall(t, disk.Kept, disk.Kept, disk.Kept, disk.Kept, disk.Kept, disk.Kept)
		}
	}
}

// Rule 4: what is handed out stays as it is, whatever the disk does then.
func TestAnswersStay(t *testing.T) {
	c := paired(t, 2)
	c.write(t, 0, []byte("ab"))
	c.sync(t)
	c.write(t, 1, []byte("cd"))
	one, _ := c.d.Read(0)
	two, _ := c.d.Read(1)
	safe, _ := c.d.Safe(0)
	none, _ := c.d.Safe(1)
	under := c.d.Under()
	for _, l := range [][]disk.Fate{{disk.Kept, disk.Kept}, {1}, nil} {
		c.write(t, 0, sample.Ones(200))
		c.sync(t)
		c.write(t, 0, sample.Text(256))
		c.write(t, 1, sample.Text(256))
		c.fall(t, l...)
	}
	for _, x := range []struct {
		got  []byte
		want string
	}{{one, "ab"}, {two, "cd"}, {safe, "ab"}, {none, ""}} {
		if !bytes.Equal(x.got, filled([]byte(x.want))) {
			t.Errorf("%s, want %q", shown(x.got), x.want)
		}
	}
	if !slices.Equal(under, []int{1}) {
		t.Errorf("under way were %d", under)
	}
}

// Rule 8: nothing of what is kept lies in an answer's spare room.
func TestNothingIsHandedOutBehind(t *testing.T) {
	for what, c := range states(t) {
		for i := range 4 {
			read, _ := c.d.Read(i)
			safe, _ := c.d.Safe(i)
			for _, b := range [][]byte{read, safe} {
				if behind := b[len(b):cap(b)]; bytes.Count(behind, []byte{0}) != len(behind) {
					t.Errorf("%s: behind the sector %d lies %x", what, i, behind)
				}
			}
		}
		under := c.d.Under()
		for _, i := range under[len(under):cap(under)] {
			if i != 0 {
				t.Errorf("%s: behind the sectors under way lies %d", what, i)
			}
		}
	}
}

// Rule 5, P14.1 to P14.4: plays of all calls, on disks and clones of them, held against the chapter taken word by word.
func TestPlays(t *testing.T) {
	came := map[api.Errno]int{}
	for seed := range uint64(60) {
		r := chosen(1000 + seed)
		all := []pair{paired(t, 1+r.IntN(4))}
		for range 150 {
			c := all[r.IntN(len(all))]
			n := c.p.sectors
			switch r.IntN(12) {
			case 0:
				c.arm(t, r.IntN(8)-1)
			case 1, 2:
				came[c.sync(t)]++
			case 3:
				l := make([]disk.Fate, r.IntN(8))
				for i := range l {
					l[i] = fates()[r.IntN(len(fates()))]
				}
				c.fall(t, l...)
			case 4:
				all = append(all[max(len(all)-3, 0):], c.clone())
			default:
				came[c.write(t, r.IntN(n+2)-1, sample.Text(300)[:r.IntN(260)])]++
			}
		}
		for _, c := range all {
			c.same(t, "at last")
		}
	}
	if came[api.OK] < 1000 || came[api.ErrArg] < 100 || came[api.ErrDown] < 100 {
		t.Errorf("the plays came to %v", came)
	}
}
