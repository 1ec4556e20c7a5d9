package log_test

import (
	"bytes"
	"encoding/binary"
	"hash/crc32"
	"slices"
	"testing"

	"wattle/api"
	"wattle/bench"
	"wattle/log"
	"wattle/record"
)

// greatest is the greatest Seq that there may be.
const greatest = 1<<31 - 1

// full is a sector of one byte.
func full(c byte) []byte {
	return bytes.Repeat([]byte{c}, api.Sector)
}

// mixed is a sector of bytes, most of them unlike their neighbours, other ones for each seed.
func mixed(seed int) []byte {
	b := make([]byte, api.Sector)
	x := uint32(seed)*2654435761 + 12345
	for i := range b {
		x = x*1664525 + 1013904223
		b[i] = byte(x >> 24)
	}
	return b
}

// to is an Item to that place, with bytes of its own for each seed and place.
func to(seed, disk, at int) record.Item {
	return record.Item{Disk: disk, At: at, Data: mixed(seed*4096 + disk*64 + at)}
}

// of is the Record of that number, with these Items.
func of(seq int, items ...record.Item) record.Record {
	return record.Record{Seq: seq, Items: items}
}

// each is a Record of that number of each number of Items, to places on disks 0 to 3.
func each(seq int) []record.Record {
	return []record.Record{
		of(seq),
		of(seq, to(seq, 2, 43)),
		of(seq, to(seq, 3, api.Size-1), to(seq, 0, api.Data)),
		of(seq, to(seq, 1, 47), to(seq, 3, 37), to(seq, 2, 41)),
	}
}

// sectorsOf is the sectors of a Record that may be, by the chapter's words, sealed by another's work than package crc.
func sectorsOf(r record.Record) [][]byte {
	first := binary.BigEndian.AppendUint32([]byte("WREC"), uint32(r.Seq))
	first = append(first, byte(len(r.Items)))
	parts := [][]byte{full(0), full(0), full(0), full(0)}
	for i, x := range r.Items {
		first = append(first, byte(x.Disk), byte(x.At))
		copy(parts[1+i], x.Data)
	}
	copy(parts[0], first)
	return seal(parts)
}

// seal sets the first sector's last four bytes as its seal with the others.
func seal(parts [][]byte) [][]byte {
	all := append(slices.Clone(parts[0][:28]), bytes.Join(parts[1:], nil)...)
	binary.BigEndian.PutUint32(parts[0][28:], crc32.Checksum(all, crc32.MakeTable(crc32.Castagnoli)))
	return parts
}

// clone is a Record that shares no memory with r.
func clone(r record.Record) record.Record {
	r.Items = slices.Clone(r.Items)
	for i := range r.Items {
		r.Items[i].Data = slices.Clone(r.Items[i].Data)
	}
	return r
}

// sameRecord tells whether the Records are one and the same.
func sameRecord(a, b record.Record) bool {
	return a.Seq == b.Seq && slices.EqualFunc(a.Items, b.Items, func(x, y record.Item) bool {
		return x.Disk == y.Disk && x.At == y.At && bytes.Equal(x.Data, y.Data)
	})
}

// newBench is a new bench of so many disks.
func newBench(t *testing.T, disks int) *bench.Bench {
	t.Helper()
	b, e := bench.New(disks)
	if e != api.OK {
		t.Fatal("New", disks, e)
	}
	return b
}

// painted is a new bench of so many disks, each of whose sectors has bytes of its own.
func painted(t *testing.T, disks int) *bench.Bench {
	t.Helper()
	b := newBench(t, disks)
	for d := range disks {
		for at := range api.Size {
			set(t, b, d, at, full(byte(1+d*api.Size+at)))
		}
	}
	return b
}

// everyone is a live of so many disks, all of them live.
func everyone(disks int) []bool {
	return slices.Repeat([]bool{true}, disks)
}

// choice is the lowest digits of x, as bools.
func choice(x, size int) []bool {
	l := make([]bool, size)
	for i := range l {
		l[i] = x>>i&1 == 1
	}
	return l
}

// count is how many are true.
func count(l []bool) int {
	n := 0
	for _, x := range l {
		if x {
			n++
		}
	}
	return n
}

// is fails the test unless the answer is the one wanted.
func is(t *testing.T, name string, got, want api.Errno) {
	t.Helper()
	if got != want {
		t.Errorf("%s: %d; want %d", name, got, want)
	}
}

// set sets a sector, as it stands behind a crash too.
func set(t *testing.T, b *bench.Bench, d, at int, x []byte) {
	t.Helper()
	is(t, "Damage", b.Damage(d, at, x), api.OK)
}

// lay sets the sectors of a log on disk d.
func lay(t *testing.T, b *bench.Bench, d int, parts [][]byte) {
	t.Helper()
	for i, x := range parts {
		set(t, b, d, api.Log+i, x)
	}
}

// put puts a Record, which must be done, and leave nothing pending.
func put(t *testing.T, b *bench.Bench, live []bool, r record.Record) {
	t.Helper()
	if e := log.Put(b, live, r); e != api.OK || b.Pending() != 0 {
		t.Errorf("Put(%v, %v): %d, pending %d", live, r, e, b.Pending())
	}
}

// apply applies a Record, which must be done, and leave nothing pending.
func apply(t *testing.T, b *bench.Bench, live []bool, r record.Record) {
	t.Helper()
	if e := log.Apply(b, live, r); e != api.OK || b.Pending() != 0 {
		t.Errorf("Apply(%v, %v): %d, pending %d", live, r, e, b.Pending())
	}
}

// stands fails the test unless x is what stands on disk d at that sector.
func stands(t *testing.T, b *bench.Bench, d, at int, x []byte) {
	t.Helper()
	if got, e := b.Read(d, at); e != api.OK || !bytes.Equal(got, x) {
		t.Errorf("Read %d, %d: %x, %d; want %x", d, at, got, e, x)
	}
}

// finds fails the test unless this is the Record that Get answers.
func finds(t *testing.T, name string, b *bench.Bench, live []bool, r record.Record) {
	t.Helper()
	if got, ok := log.Get(b, live); !ok || !sameRecord(got, r) {
		t.Errorf("%s: Get(%v): %v, %v; want %v", name, live, got, ok, r)
	}
}

// findsNone fails the test unless Get answers that there is none, and nothing beside it.
func findsNone(t *testing.T, name string, b *bench.Bench, live []bool) {
	t.Helper()
	if r, ok := log.Get(b, live); ok || r.Seq != 0 || len(r.Items) != 0 {
		t.Errorf("%s: Get(%v): %v, %v; want none", name, live, r, ok)
	}
}

// findsOr fails the test unless Get answers this Record, or none where it is of Seq 0.
func findsOr(t *testing.T, name string, b *bench.Bench, live []bool, r record.Record) {
	t.Helper()
	if r.Seq == 0 {
		findsNone(t, name, b, live)
	} else {
		finds(t, name, b, live, r)
	}
}

// sectors is all that can be read on a bench, disk by disk, with the errors of the reads that fail.
func sectors(b *bench.Bench) []byte {
	var all []byte
	for d := range b.Len() {
		for at := range api.Size {
			x, e := b.Read(d, at)
			all = append(append(all, byte(e)), x...)
		}
	}
	return all
}

// sameSectors fails the test unless the benches have the same sectors, now and behind a crash that keeps nothing.
func sameSectors(t *testing.T, name string, b, c *bench.Bench) {
	t.Helper()
	if !bytes.Equal(sectors(b), sectors(c)) {
		t.Errorf("%s: another sector", name)
	}
	x, y := b.Clone(), c.Clone()
	x.Crash()
	y.Crash()
	if !bytes.Equal(sectors(x), sectors(y)) {
		t.Errorf("%s: another sector behind a crash", name)
	}
}

// same fails the test unless the benches can't be told from each other, now nor behind a crash.
func same(t *testing.T, name string, b, c *bench.Bench) {
	t.Helper()
	if b.Writes() != c.Writes() || b.Pending() != c.Pending() || b.Down() != c.Down() {
		t.Errorf("%s: %d, %d, %v; want %d, %d, %v", name, b.Writes(), b.Pending(), b.Down(), c.Writes(), c.Pending(), c.Down())
	}
	sameSectors(t, name, b, c)
	x, y := b.Clone(), c.Clone()
	x.Crash(everyone(x.Pending())...)
	y.Crash(everyone(y.Pending())...)
	if !bytes.Equal(sectors(x), sectors(y)) {
		t.Errorf("%s: another sector behind a crash that keeps all", name)
	}
}
