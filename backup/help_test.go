package backup_test

import (
	"bytes"
	"encoding/binary"
	"hash/crc32"
	"slices"
	"testing"

	"wattle/api"
	"wattle/backup"
	"wattle/bench"
)

// kept is a backup: what Put is handed, and Get is to answer.
type kept struct {
	epoch, window int
	data          [][]byte
}

// full is a sector of one byte.
func full(c byte) []byte {
	return bytes.Repeat([]byte{c}, api.Sector)
}

// mixed is a sector of bytes, most of them unlike their neighbours, other ones for each seed.
func mixed(seed int) []byte {
	b := make([]byte, api.Sector)
	x := uint32(seed)*2654435761 + 12345
	for i := range b {
		x = x*1664525 + 1013904223
		b[i] = byte(x >> 24)
	}
	return b
}

// dataOf is so many sectors, other ones for each seed.
func dataOf(seed, count int) [][]byte {
	l := make([][]byte, count)
	for i := range l {
		l[i] = mixed(seed*64 + i)
	}
	return l
}

// zeros is so many sectors of zeros.
func zeros(count int) [][]byte {
	l := make([][]byte, count)
	for i := range l {
		l[i] = full(0)
	}
	return l
}

// sectorsOf is the sectors of a backup, by the chapter's words, sealed by another's work than package crc.
func sectorsOf(k kept) [][]byte {
	first := full(0)
	copy(first, "WBAK")
	binary.BigEndian.PutUint16(first[4:], uint16(k.epoch))
	first[6], first[7] = byte(k.window), byte(len(k.data))
	return seal(append([][]byte{first}, copyOf(k.data)...))
}

// seal sets the first sector's last four bytes as its seal with the others.
func seal(parts [][]byte) [][]byte {
	all := append(slices.Clone(parts[0][:28]), bytes.Join(parts[1:], nil)...)
	binary.BigEndian.PutUint32(parts[0][28:], crc32.Checksum(all, crc32.MakeTable(crc32.Castagnoli)))
	return parts
}

// copyOf is these sectors in memory of their own.
func copyOf(l [][]byte) [][]byte {
	c := make([][]byte, len(l))
	for i := range l {
		c[i] = slices.Clone(l[i])
	}
	return c
}

// brief is the first bytes of these sectors, to tell them by.
func brief(l [][]byte) [][]byte {
	c := make([][]byte, len(l))
	for i, x := range l {
		c[i] = x[:min(len(x), 4)]
	}
	return c
}

// newBench is a new bench of so many disks.
func newBench(t *testing.T, disks int) *bench.Bench {
	t.Helper()
	b, e := bench.New(disks)
	if e != api.OK {
		t.Fatal("New", disks, e)
	}
	return b
}

// painted is a new bench of so many disks, each of whose sectors has bytes of its own.
func painted(t *testing.T, disks int) *bench.Bench {
	t.Helper()
	b := newBench(t, disks)
	for d := range disks {
		for at := range api.Size {
			set(t, b, d, at, mixed(1<<20+d*64+at))
		}
	}
	return b
}

// everyone is a live of so many disks, all of them live.
func everyone(disks int) []bool {
	return slices.Repeat([]bool{true}, disks)
}

// choice is the lowest digits of x, as bools.
func choice(x, size int) []bool {
	l := make([]bool, size)
	for i := range l {
		l[i] = x>>i&1 == 1
	}
	return l
}

// count is how many are true.
func count(l []bool) int {
	n := 0
	for _, x := range l {
		if x {
			n++
		}
	}
	return n
}

// is fails the test unless the answer is the one wanted.
func is(t *testing.T, name string, got, want api.Errno) {
	t.Helper()
	if got != want {
		t.Errorf("%s: %d; want %d", name, got, want)
	}
}

// set sets a sector, as it stands behind a crash too.
func set(t *testing.T, b *bench.Bench, d, at int, x []byte) {
	t.Helper()
	is(t, "Damage", b.Damage(d, at, x), api.OK)
}

// lay sets the sectors of a backup on disk d.
func lay(t *testing.T, b *bench.Bench, d int, parts [][]byte) {
	t.Helper()
	for i, x := range parts {
		set(t, b, d, api.Backup+i, x)
	}
}

// put puts a backup, which must be done, and leave nothing pending.
func put(t *testing.T, b *bench.Bench, live []bool, k kept) {
	t.Helper()
	if e := backup.Put(b, live, k.epoch, k.window, k.data...); e != api.OK || b.Pending() != 0 {
		t.Errorf("Put(%v, %d, %d, %d sectors): %d, pending %d", live, k.epoch, k.window, len(k.data), e, b.Pending())
	}
}

// refused fails the test unless Put answers this error.
func refused(t *testing.T, name string, b *bench.Bench, live []bool, k kept, want api.Errno) {
	t.Helper()
	if e := backup.Put(b, live, k.epoch, k.window, k.data...); e != want {
		t.Errorf("%s: Put(%v, %d, %d, %d sectors): %d; want %d", name, live, k.epoch, k.window, len(k.data), e, want)
	}
}

// stands fails the test unless x is what stands on disk d at that sector.
func stands(t *testing.T, b *bench.Bench, d, at int, x []byte) {
	t.Helper()
	if got, e := b.Read(d, at); e != api.OK || !bytes.Equal(got, x) {
		t.Errorf("Read %d, %d: %x, %d; want %x", d, at, got, e, x)
	}
}

// finds fails the test unless Get, of that epoch and window, answers this backup's data.
func finds(t *testing.T, name string, b *bench.Bench, live []bool, k kept) {
	t.Helper()
	got, ok := backup.Get(b, live, k.epoch, k.window)
	if !ok || !slices.EqualFunc(got, k.data, bytes.Equal) {
		t.Errorf("%s: Get(%v, %d, %d): %x, %v; want %x", name, live, k.epoch, k.window, brief(got), ok, brief(k.data))
	}
}

// findsNone fails the test unless Get, of that epoch and window, answers that there is none, and nothing beside it.
func findsNone(t *testing.T, name string, b *bench.Bench, live []bool, epoch, window int) {
	t.Helper()
	if got, ok := backup.Get(b, live, epoch, window); ok || len(got) != 0 {
		t.Errorf("%s: Get(%v, %d, %d): %x, %v; want none", name, live, epoch, window, brief(got), ok)
	}
}

// findsIf fails the test unless Get answers this backup's data where there is to be one, and none otherwise.
func findsIf(t *testing.T, name string, has bool, b *bench.Bench, live []bool, k kept) {
	t.Helper()
	if has {
		finds(t, name, b, live, k)
	} else {
		findsNone(t, name, b, live, k.epoch, k.window)
	}
}

// sectors is all that can be read on a bench, disk by disk, with the errors of the reads that fail.
func sectors(b *bench.Bench) []byte {
	var all []byte
	for d := range b.Len() {
		for at := range api.Size {
			x, e := b.Read(d, at)
			all = append(append(all, byte(e)), x...)
		}
	}
	return all
}

// sameSectors fails the test unless the benches have the same sectors, now and behind a crash that keeps nothing.
func sameSectors(t *testing.T, name string, b, c *bench.Bench) {
	t.Helper()
	if !bytes.Equal(sectors(b), sectors(c)) {
		t.Errorf("%s: another sector", name)
	}
	x, y := b.Clone(), c.Clone()
	x.Crash()
	y.Crash()
	if !bytes.Equal(sectors(x), sectors(y)) {
		t.Errorf("%s: another sector behind a crash", name)
	}
}

// same fails the test unless the benches can't be told from each other, now nor behind a crash.
func same(t *testing.T, name string, b, c *bench.Bench) {
	t.Helper()
	if b.Writes() != c.Writes() || b.Pending() != c.Pending() || b.Down() != c.Down() {
		t.Errorf("%s: %d, %d, %v; want %d, %d, %v", name, b.Writes(), b.Pending(), b.Down(), c.Writes(), c.Pending(), c.Down())
	}
	sameSectors(t, name, b, c)
	x, y := b.Clone(), c.Clone()
	x.Crash(everyone(x.Pending())...)
	y.Crash(everyone(y.Pending())...)
	if !bytes.Equal(sectors(x), sectors(y)) {
		t.Errorf("%s: another sector behind a crash that keeps all", name)
	}
}
