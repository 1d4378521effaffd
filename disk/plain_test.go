package disk_test

import (
	"bytes"
	"fmt"
	"math"
	"math/rand/v2"
	"slices"
	"testing"

	"coffret/api"
	"coffret/disk"
	"coffret/sample"
)

const size = 256 // bytes of a sector

// plainDisk is the chapter taken word by word. It tells what is safe by doing again all that became so.
type plainDisk struct {
	sectors int
	done    []plainWrite // what became safe, in its order
	under   []plainWrite
	armed   bool
	calls   int // how many are still done, where it is armed
	down    bool
}

// plainWrite is bytes that stand at the beginning of a sector.
type plainWrite struct {
	at int
	b  []byte
}

// filled is bytes, and zeros up to those of a sector.
func filled(b []byte) []byte {
	return append(bytes.Clone(b), make([]byte, size-len(b))...)
}

func (p *plainDisk) clone() *plainDisk {
	other := *p
	other.done, other.under = slices.Clone(p.done), slices.Clone(p.under)
	return &other
}

func (p *plainDisk) has(i int) bool {
	return 0 <= i && i < p.sectors
}

// counted tells whether a call that would tell no error is done.
func (p *plainDisk) counted() bool {
	if p.armed && p.calls == 0 {
		p.down = true
	}
	p.calls--
	return !p.down
}

func (p *plainDisk) write(i int, b []byte) api.Errno {
	if p.down {
		return api.ErrDown
	}
	if !p.has(i) || len(b) > size {
		return api.ErrArg
	}
	p.under = append(p.under, plainWrite{i, filled(b)})
	if !p.counted() {
		return api.ErrDown
	}
	return api.OK
}

func (p *plainDisk) sync() api.Errno {
	if p.down || !p.counted() {
		return api.ErrDown
	}
	p.done = append(p.done, p.under...)
	p.under = nil
	return api.OK
}

func (p *plainDisk) safe(i int) ([]byte, api.Errno) {
	if !p.has(i) {
		return nil, api.ErrArg
	}
	b := make([]byte, size)
	for _, w := range p.done {
		if w.at == i {
			b = append(bytes.Clone(w.b), b[len(w.b):]...)
		}
	}
	return b, api.OK
}

func (p *plainDisk) read(i int) ([]byte, api.Errno) {
	if p.down {
		return nil, api.ErrDown
	}
	for k := len(p.under) - 1; k >= 0; k-- {
		if p.under[k].at == i {
			return p.under[k].b, api.OK
		}
	}
	return p.safe(i)
}

func (p *plainDisk) arm(n int) {
	p.armed, p.calls = n >= 0, n
}

func (p *plainDisk) fall(l []disk.Fate) {
	for k, w := range p.under {
		fate := -1
		if k < len(l) {
			fate = int(l[k])
		}
		if fate > 256 {
			fate = 256
		}
		if fate >= 0 {
			p.done = append(p.done, plainWrite{w.at, w.b[:fate]})
		}
	}
	p.under, p.down, p.armed = nil, false, false
}

func (p *plainDisk) sectorsUnder() []int {
	var l []int
	for _, w := range p.under {
		l = append(l, w.at)
	}
	return l
}

// made is a new disk of so many sectors.
func made(t *testing.T, n int) *disk.Disk {
	t.Helper()
	d, e := disk.New(n)
	if e != api.OK || d == nil {
		t.Fatalf("New(%d): %v, error %d", n, d, int(e))
	}
	return d
}

// pair is a disk, and the plain one beside it.
type pair struct {
	d *disk.Disk
	p *plainDisk
}

func paired(t *testing.T, n int) pair {
	t.Helper()
	return pair{made(t, n), &plainDisk{sectors: n}}
}

func (c pair) clone() pair {
	return pair{c.d.Clone(), c.p.clone()}
}

// write, sync, arm and fall let both do it, and hold what they answer, and what they are then, against each other.
func (c pair) write(t *testing.T, i int, b []byte) api.Errno {
	t.Helper()
	got, want := c.d.Write(i, b), c.p.write(i, b)
	what := fmt.Sprintf("Write(%d, of %d bytes)", i, len(b))
	if got != want {
		t.Errorf("%s: error %d, want %d", what, int(got), int(want))
	}
	c.same(t, what)
	return got
}

func (c pair) sync(t *testing.T) api.Errno {
	t.Helper()
	got, want := c.d.Sync(), c.p.sync()
	if got != want {
		t.Errorf("Sync: error %d, want %d", int(got), int(want))
	}
	c.same(t, "Sync")
	return got
}

func (c pair) arm(t *testing.T, n int) {
	t.Helper()
	c.d.Arm(n)
	c.p.arm(n)
	c.same(t, fmt.Sprintf("Arm(%d)", n))
}

func (c pair) fall(t *testing.T, l ...disk.Fate) {
	t.Helper()
	c.d.Fall(l)
	c.p.fall(l)
	c.same(t, fmt.Sprintf("Fall(%d)", l))
}

// same tells whether both are alike, as far as calls that change nothing show it.
func (c pair) same(t *testing.T, what string) {
	t.Helper()
	if c.d.Sectors() != c.p.sectors || c.d.Down() != c.p.down {
		t.Errorf("%s: %d sectors, down %v, want %d, %v", what, c.d.Sectors(), c.d.Down(), c.p.sectors, c.p.down)
	}
	if got, want := c.d.Under(), c.p.sectorsUnder(); !slices.Equal(got, want) {
		t.Errorf("%s: under way are %d, want %d", what, got, want)
	}
	for _, i := range append(places(c.p.sectors), noPlaces(c.p.sectors)...) {
		got, e := c.d.Read(i)
		want, wantError := c.p.read(i)
		if e != wantError || !bytes.Equal(got, want) {
			t.Errorf("%s: Read(%d): %s, error %d, want %s, error %d", what, i, shown(got), int(e), shown(want), int(wantError))
		}
		got, e = c.d.Safe(i)
		want, wantError = c.p.safe(i)
		if e != wantError || !bytes.Equal(got, want) {
			t.Errorf("%s: Safe(%d): %s, error %d, want %s, error %d", what, i, shown(got), int(e), shown(want), int(wantError))
		}
	}
}

// checkSector tells whether a sector is read so, and is safe so, zeros behind.
func checkSector(t *testing.T, what string, d *disk.Disk, i int, read, safe string) {
	t.Helper()
	if got, e := d.Read(i); e != api.OK || !bytes.Equal(got, filled([]byte(read))) {
		t.Errorf("%s: Read(%d): %s, error %d, want %q", what, i, shown(got), int(e), read)
	}
	checkSafe(t, what, d, i, safe)
}

func checkSafe(t *testing.T, what string, d *disk.Disk, i int, safe string) {
	t.Helper()
	if got, e := d.Safe(i); e != api.OK || !bytes.Equal(got, filled([]byte(safe))) {
		t.Errorf("%s: Safe(%d): %s, error %d, want %q", what, i, shown(got), int(e), safe)
	}
}

func checkUnder(t *testing.T, what string, d *disk.Disk, want ...int) {
	t.Helper()
	if got := d.Under(); !slices.Equal(got, want) {
		t.Errorf("%s: under way are %d, want %d", what, got, want)
	}
}

// checkError tells whether a call came to an error.
func checkError(t *testing.T, what string, got, want api.Errno) {
	t.Helper()
	if got != want {
		t.Errorf("%s: error %d, want %d", what, int(got), int(want))
	}
}

// shown is a text short enough to be shown, without the zeros that end it.
func shown(b []byte) string {
	return fmt.Sprintf("%d bytes, %x", len(b), sample.Some(bytes.TrimRight(b, "\x00")))
}

// places are those of a disk's sectors.
func places(n int) []int {
	var l []int
	for i := range n {
		l = append(l, i)
	}
	return l
}

// noPlaces are numbers that no sector of a disk has.
func noPlaces(n int) []int {
	return []int{math.MinInt, math.MinInt32, -n, -2, -1, n, n + 1, 2 * n, 256 + n, 2048 + n, 1<<16 + n, math.MaxInt32, 1 << 32, 1<<32 + n - 1, math.MaxInt}
}

// texts are those that a sector takes.
func texts() [][]byte {
	return [][]byte{nil, {}, {0}, {1}, []byte("xyz"), sample.Text(2), sample.Text(128), sample.Text(255), sample.Text(256), sample.Ones(256), make([]byte, 256)}
}

// bigTexts are those that are too long for a sector.
func bigTexts() [][]byte {
	return [][]byte{sample.Text(257), make([]byte, 257), sample.Ones(258), sample.Text(512), make([]byte, 1<<16), make([]byte, 1<<16+1)}
}

// fates are those of a write, at the edges and about them.
func fates() []disk.Fate {
	return []disk.Fate{disk.Lost, disk.Kept, math.MinInt, math.MinInt32, -257, -256, -2, 0, 1, 2, 3, 127, 128, 254, 255, 256, 257, 300, 511, 512, 1 << 16, math.MaxInt32, 1 << 32, 1<<32 + 1, math.MaxInt}
}

// chosen are numbers that look like chance, the same in each run.
func chosen(seed uint64) *rand.Rand {
	return rand.New(rand.NewPCG(seed, 14))
}
