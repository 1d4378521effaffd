package store_test

import (
	"bytes"
	"crypto/sha256"
	"encoding/binary"
	"fmt"
	"maps"
	"math/rand/v2"
	"slices"
	"strings"
	"testing"

	"coffret/api"
	"coffret/disk"
	"coffret/sample"
	"coffret/store"
)

type change = store.Change

// plainStore is the chapter taken word by word. It keeps the changes of its half's records, and makes them all again whenever it is asked.
type plainStore struct {
	d          *disk.Disk
	begin      int // its half's first sector
	generation uint64
	records    [][]change
	stopped    bool
}

// plainBytes are those of a record.
func plainBytes(l []change) []byte {
	b := binary.BigEndian.AppendUint16(nil, uint16(len(l)))
	for _, c := range l {
		value := c.Value
		if c.Gone {
			b = append(b, 1)
			value = nil
		} else {
			b = append(b, 0)
		}
		b = plainSized(plainSized(b, []byte(c.Key)), value)
	}
	return b
}

func plainSized(b, x []byte) []byte {
	return append(binary.BigEndian.AppendUint32(b, uint32(len(x))), x...)
}

// plainMark is the mark of a record of such bytes.
func plainMark(generation, number uint64, b []byte) []byte {
	m := []byte{1, 'C', 'S', 'T'}
	m = binary.BigEndian.AppendUint64(m, generation)
	m = binary.BigEndian.AppendUint64(m, number)
	m = binary.BigEndian.AppendUint32(m, uint32(len(b)))
	sum := sha256.Sum256(b)
	m = append(m, sum[:]...)
	return append(m, 0, 0, 0, 0, 0, 0, 0, 0)
}

// plainSectors are those of a record of such bytes, its mark's first.
func plainSectors(generation, number uint64, b []byte) [][]byte {
	m := plainMark(generation, number, b)
	l := [][]byte{slices.Concat(m, make([]byte, 128), m)}
	for len(b) > 0 {
		n := min(len(b), 255)
		l = append(l, slices.Concat([]byte{2}, b[:n], make([]byte, 255-n)))
		b = b[n:]
	}
	return l
}

// plainChanges tells of which changes these are the bytes.
func plainChanges(b []byte) ([]change, bool) {
	take := func(n uint64) []byte {
		if n > uint64(len(b)) {
			b = nil
			return nil
		}
		x := b[:n]
		b = b[n:]
		return x
	}
	number := func(n int) uint64 {
		return binary.BigEndian.Uint64(append(make([]byte, 8), take(uint64(n))...)[n:])
	}
	all := b
	if len(b) < 2 {
		return nil, false
	}
	var l []change
	for range number(2) {
		if len(b) < 9 {
			return nil, false
		}
		gone := number(1)
		key := take(number(4))
		if len(b) < 4 {
			return nil, false
		}
		l = append(l, change{Key: string(key), Value: take(number(4)), Gone: gone == 1})
	}
	return l, plainMay(l) && bytes.Equal(plainBytes(l), all)
}

// plainMay tells whether changes may be.
func plainMay(l []change) bool {
	return len(l) <= 4096 && !slices.ContainsFunc(l, func(c change) bool {
		return len(c.Key) < 1 || len(c.Key) > 96 || len(c.Value) > 65536
	})
}

// plainWhole tells the changes of the record of a generation and a number, if it stands whole from a sector on, ahead of the end.
func plainWhole(d *disk.Disk, at, end int, generation, number uint64) ([]change, bool) {
	if at >= end {
		return nil, false
	}
	first, _ := d.Read(at)
	size := int(binary.BigEndian.Uint32(first[20:]))
	k := (size + 254) / 255
	if at+1+k > end {
		return nil, false
	}
	var b []byte
	for i := range k {
		x, _ := d.Read(at + 1 + i)
		b = append(b, x[1:]...)
	}
	for i, x := range plainSectors(generation, number, b[:size]) {
		if have, _ := d.Read(at + i); !bytes.Equal(x, have) {
			return nil, false
		}
	}
	return plainChanges(b[:size])
}

// plainHalf tells the records that the half from a sector on has, and their generation; 0, if it has none.
func plainHalf(d *disk.Disk, begin int) (uint64, [][]change) {
	h := d.Sectors() / 2
	first, _ := d.Read(begin)
	generation := binary.BigEndian.Uint64(first[4:])
	var records [][]change
	for at := begin; ; {
		l, ok := plainWhole(d, at, begin+h, generation, uint64(len(records)))
		if !ok || generation == 0 {
			break
		}
		records = append(records, l)
		at += plainCount(l)
	}
	if len(records) == 0 {
		return 0, nil
	}
	return generation, records
}

// plainCount is how many sectors the record of some changes has.
func plainCount(l []change) int {
	return 1 + (len(plainBytes(l))+254)/255
}

func plainOpen(d *disk.Disk) (*plainStore, api.Errno) {
	h := d.Sectors() / 2
	p := &plainStore{d: d}
	p.generation, p.records = plainHalf(d, 0)
	if generation, records := plainHalf(d, h); generation > p.generation {
		p.begin, p.generation, p.records = h, generation, records
	}
	if p.generation == 0 {
		if e := p.write(0, 1, 0, nil); e != api.OK {
			return nil, e
		}
		p.generation, p.records = 1, [][]change{nil}
	}
	return p, api.OK
}

// write writes a record.
func (p *plainStore) write(at int, generation, number uint64, l []change) api.Errno {
	sectors := plainSectors(generation, number, plainBytes(l))
	for i := 1; i < len(sectors); i++ {
		if e := p.d.Write(at+i, sectors[i]); e != api.OK {
			return e
		}
	}
	if e := p.d.Sync(); e != api.OK {
		return e
	}
	if e := p.d.Write(at, sectors[0]); e != api.OK {
		return e
	}
	return p.d.Sync()
}

func (p *plainStore) left() int {
	n := p.d.Sectors() / 2
	for _, l := range p.records {
		n -= plainCount(l)
	}
	return n
}

// values are those of all changes, made in order.
func (p *plainStore) values(more ...[]change) map[string]string {
	m := map[string]string{}
	for _, l := range slices.Concat(p.records, more) {
		plainMake(m, l)
	}
	return m
}

func plainMake(m map[string]string, l []change) {
	for _, c := range l {
		if c.Gone {
			delete(m, c.Key)
		} else {
			m[c.Key] = string(c.Value)
		}
	}
}

func (p *plainStore) commit(l []change) api.Errno {
	if p.stopped {
		return api.ErrState
	}
	if !plainMay(l) {
		return api.ErrArg
	}
	if len(l) == 0 {
		return api.OK
	}
	l = copied(l)
	h := p.d.Sectors() / 2
	next := *p
	var e api.Errno
	if plainCount(l) <= p.left() {
		e = p.write(p.begin+h-p.left(), p.generation, uint64(len(p.records)), l)
		next.records = append(slices.Clone(p.records), l)
	} else {
		var all []change
		m := p.values(l)
		for _, key := range slices.Sorted(maps.Keys(m)) {
			all = append(all, change{Key: key, Value: []byte(m[key])})
		}
		if !plainMay(all) || plainCount(all) > h {
			return api.ErrFull
		}
		next.begin = h - p.begin
		next.generation++
		next.records = [][]change{all}
		e = p.write(next.begin, next.generation, 0, all)
	}
	if e != api.OK {
		p.stopped = true
		return e
	}
	*p = next
	return api.OK
}

// copied are the same changes in memory of their own.
func copied(l []change) []change {
	l = slices.Clone(l)
	for i := range l {
		l[i].Key, l[i].Value = strings.Clone(l[i].Key), bytes.Clone(l[i].Value)
	}
	return l
}

// pair is a store, and the plain one beside it, on a disk of its own.
type pair struct {
	d *disk.Disk
	s *store.Store
	p *plainStore
}

// paired opens both, the plain one on a clone of the disk.
func paired(t *testing.T, d *disk.Disk) pair {
	t.Helper()
	other := d.Clone()
	s, e := store.Open(d)
	p, want := plainOpen(other)
	if e != want || e != api.OK || s == nil {
		t.Fatalf("Open: %v, error %d, want %d", s, int(e), int(want))
	}
	c := pair{d, s, p}
	c.same(t, "Open")
	return c
}

// commit lets both do it, and holds what they answer, and what they are then, against each other.
func (c pair) commit(t *testing.T, l []change) api.Errno {
	t.Helper()
	got, want := c.s.Commit(l), c.p.commit(l)
	if got != want {
		t.Errorf("Commit(%s): error %d, want %d", shown(l), int(got), int(want))
	}
	c.same(t, "Commit("+shown(l)+")")
	return got
}

func (c pair) arm(n int) {
	c.d.Arm(n)
	c.p.d.Arm(n)
}

func (c pair) fall(l ...disk.Fate) {
	c.d.Fall(l)
	c.p.d.Fall(l)
}

// again opens both again.
func (c pair) again(t *testing.T) pair {
	t.Helper()
	other := paired(t, c.d)
	p, e := plainOpen(c.p.d)
	if e != api.OK {
		t.Fatalf("the plain one: error %d", int(e))
	}
	other.p = p
	other.same(t, "opened again")
	return other
}

// same tells whether both are alike, as far as calls that change nothing show it, and the disks too.
func (c pair) same(t *testing.T, what string) {
	t.Helper()
	if c.s.Left() != c.p.left() || c.s.Moves() != c.p.generation-1 || c.s.Stopped() != c.p.stopped {
		t.Errorf("%s: Left %d, Moves %d, Stopped %v, want %d, %d, %v", what, c.s.Left(), c.s.Moves(), c.s.Stopped(), c.p.left(), c.p.generation-1, c.p.stopped)
	}
	checkValues(t, what, c.s, c.p.values())
	sameDisks(t, what, c.d, c.p.d)
}

// sameDisks tells whether disks are alike in all that they tell.
func sameDisks(t *testing.T, what string, d, want *disk.Disk) {
	t.Helper()
	if d.Sectors() != want.Sectors() || d.Down() != want.Down() || !slices.Equal(d.Under(), want.Under()) {
		t.Errorf("%s: of %d sectors, down %v, under way %d, want %d, %v, %d", what, d.Sectors(), d.Down(), d.Under(), want.Sectors(), want.Down(), want.Under())
	}
	for i := range want.Sectors() {
		x, _ := d.Safe(i)
		y, _ := want.Safe(i)
		if !bytes.Equal(x, y) {
			t.Errorf("%s: safe of the sector %d is %x, want %x", what, i, x, y)
		}
		x, e := d.Read(i)
		y, f := want.Read(i)
		if e != f || !bytes.Equal(x, y) {
			t.Errorf("%s: the sector %d is %x, error %d, want %x, error %d", what, i, x, int(e), y, int(f))
		}
	}
}

// checkValues tells whether a store has these values, and no others.
func checkValues(t *testing.T, what string, s *store.Store, want map[string]string) {
	t.Helper()
	keys := slices.Sorted(maps.Keys(want))
	if got := s.Keys(""); !slices.Equal(got, keys) {
		t.Errorf("%s: the keys are %.200q, want %.200q", what, got, keys)
	}
	for _, key := range keys {
		if b, ok := s.Get(key); !ok || string(b) != want[key] {
			t.Errorf("%s: Get(%q): %d bytes, %.100q, %v, want %d bytes, %.100q", what, key, len(b), b, ok, len(want[key]), want[key])
		}
	}
}

// hasValues tells whether it does.
func hasValues(s *store.Store, want map[string]string) bool {
	keys := s.Keys("")
	return len(keys) == len(want) && !slices.ContainsFunc(keys, func(key string) bool {
		b, ok := s.Get(key)
		x, there := want[key]
		return !ok || !there || string(b) != x
	})
}

// checkError tells whether a call came to an error.
func checkError(t *testing.T, what string, got, want api.Errno) {
	t.Helper()
	if got != want {
		t.Errorf("%s: error %d, want %d", what, int(got), int(want))
	}
}

// made is a new disk of so many sectors.
func made(t *testing.T, n int) *disk.Disk {
	t.Helper()
	d, e := disk.New(n)
	if e != api.OK {
		t.Fatalf("disk.New(%d): error %d", n, int(e))
	}
	return d
}

// opened is the store of a disk that has to have one, or to be fit for one.
func opened(t *testing.T, d *disk.Disk) *store.Store {
	t.Helper()
	s, e := store.Open(d)
	if e != api.OK || s == nil {
		t.Fatalf("Open: %v, error %d", s, int(e))
	}
	return s
}

// laid writes sectors from one on.
func laid(t *testing.T, d *disk.Disk, at int, sectors [][]byte) int {
	t.Helper()
	for i, b := range sectors {
		checkError(t, "Write", d.Write(at+i, b), api.OK)
	}
	checkError(t, "Sync", d.Sync(), api.OK)
	return at + len(sectors)
}

// put and gone are changes.
func put(key, value string) change {
	return change{Key: key, Value: []byte(value)}
}

func gone(key string) change {
	return change{Key: key, Gone: true}
}

// wide is a change of one key whose record, if it has this change alone, has so many bytes.
func wide(key string, size int) []change {
	return []change{{Key: key, Value: sample.Text(size - 11 - len(key))}}
}

// filling is a change whose record has so many sectors.
func filling(key string, sectors int) []change {
	return wide(key, 255*(sectors-1))
}

// shown are changes, short enough to be shown.
func shown(l []change) string {
	var b strings.Builder
	for i, c := range l {
		if i == 4 {
			fmt.Fprintf(&b, "and %d more", len(l)-i)
			break
		}
		fmt.Fprintf(&b, "%.20q: %d bytes, gone %v; ", c.Key, len(c.Value), c.Gone)
	}
	return b.String()
}

// chosen are numbers that look like chance, the same in each run.
func chosen(seed uint64) *rand.Rand {
	return rand.New(rand.NewPCG(seed, 15))
}
