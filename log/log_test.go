package log_test

import (
	"bytes"
	"math"
	"slices"
	"testing"

	"wattle/api"
	"wattle/bench"
	"wattle/log"
	"wattle/record"
)

// P12.1: the chapter's example, of each number of disks.
func TestExample(t *testing.T) {
	for n := 1; n <= api.MaxDisks; n++ {
		findsNone(t, "new", newBench(t, n), everyone(n))
	}
}

// P12.1: sectors by hand, byte by byte: from sector 2 on, on the live disks alone; Get reads them, Apply carries them out.
func TestByHand(t *testing.T) {
	const behind = "\x00\x00\x00\x00\x00\x00\x00\x00\x00\x00\x00\x00\x00"
	a, c, d, e, f := full('A'), full('B'), full('C'), full('D'), full('E')
	none, two, three := of(1), of(0x01020304, record.Item{Disk: 0, At: 36, Data: a}, record.Item{Disk: 2, At: 51, Data: c}),
		of(greatest, record.Item{Disk: 2, At: 40, Data: d}, record.Item{Disk: 1, At: 40, Data: e}, record.Item{Disk: 2, At: 41, Data: f})
	b := newBench(t, 3)
	put(t, b, []bool{true, false, false}, none)
	put(t, b, []bool{false, true, false}, two)
	put(t, b, []bool{false, false, true}, three)
	for i, want := range [][][]byte{
		{[]byte("WREC\x00\x00\x00\x01\x00" + "\x00\x00\x00\x00\x00\x00" + behind + "\x99\xF0\x9D\xF9"), full(0), full(0), full(0)},
		{[]byte("WREC\x01\x02\x03\x04\x02" + "\x00\x24\x02\x33\x00\x00" + behind + "\x3C\x0F\xD5\x28"), a, c, full(0)},
		{[]byte("WREC\x7F\xFF\xFF\xFF\x03" + "\x02\x28\x01\x28\x02\x29" + behind + "\x57\x0F\x57\xB5"), d, e, f},
	} {
		for at := range api.Size {
			if at >= 2 && at < 6 {
				stands(t, b, i, at, want[at-2])
			} else {
				stands(t, b, i, at, full(0))
			}
		}
	}
	finds(t, "the first alone", b, []bool{true}, none)
	finds(t, "the first two", b, []bool{true, true}, two)
	finds(t, "all", b, everyone(3), three)
	if b.Writes() != 12 {
		t.Error("writes", b.Writes())
	}
	apply(t, b, everyone(3), two)
	apply(t, b, []bool{false, false, true}, three)
	for _, x := range []struct {
		d, at int
		want  []byte
	}{{0, 36, a}, {2, 51, c}, {2, 40, d}, {1, 40, full(0)}, {2, 41, f}} {
		stands(t, b, x.d, x.at, x.want)
	}
	if b.Writes() != 12+4 {
		t.Error("writes", b.Writes())
	}
}

// P12.1: records of each number of Items put on some disks, whichever they are: their sectors stand there, byte by byte,
// nothing else is touched, and Get of some disks finds the record if one of those has it.
func TestPutOnEachChoice(t *testing.T) {
	for x := range 1 << 4 {
		live := choice(x, 4)
		for _, r := range each(77) {
			b := painted(t, 4)
			want := b.Clone()
			put(t, b, live, r)
			for d := range live {
				if live[d] {
					lay(t, want, d, sectorsOf(r))
				}
			}
			sameSectors(t, "put", b, want)
			if b.Writes() != 4*count(live) {
				t.Error(live, "writes", b.Writes())
			}
			for y := range 1 << 4 {
				if x&y == 0 {
					findsNone(t, "on none of these", b, choice(y, 4))
				} else {
					finds(t, "on one of these", b, choice(y, 4), r)
				}
			}
		}
	}
}

// P12.1: a newer record, of each number of Items, put over one of each number, on whichever disks: Get tells the newer
// one, where it is on a disk that is asked; nothing of the older one's sectors is left where the newer one is.
func TestNewerOne(t *testing.T) {
	for i := range 4 {
		for j := range 4 {
			older, newer := each(8)[i], each(9)[j]
			for x := range 1 << 4 {
				live := choice(x, 4)
				b := newBench(t, 4)
				put(t, b, everyone(4), older)
				put(t, b, live, newer)
				for d := range live {
					its := older
					if live[d] {
						its = newer
					}
					for k, want := range sectorsOf(its) {
						stands(t, b, d, api.Log+k, want)
					}
				}
				for y := 1; y < 1<<4; y++ {
					if x&y == 0 {
						finds(t, "the older one", b, choice(y, 4), older)
					} else {
						finds(t, "the newer one", b, choice(y, 4), newer)
					}
				}
			}
		}
	}
}

// P12.1: Put asks nothing of what stands there: an older record, or the same again, is written over it too, and counts.
func TestPutOver(t *testing.T) {
	b := newBench(t, 3)
	put(t, b, everyone(3), each(9)[3])
	put(t, b, everyone(3), each(9)[3])
	finds(t, "again", b, everyone(3), each(9)[3])
	put(t, b, []bool{false, true}, each(4)[2])
	finds(t, "an older one on one disk", b, everyone(3), each(9)[3])
	finds(t, "that disk", b, []bool{false, true}, each(4)[2])
	put(t, b, everyone(3), each(3)[1])
	finds(t, "an older one on all", b, everyone(3), each(3)[1])
	if b.Writes() != 12+12+4+12 {
		t.Error("writes", b.Writes())
	}
}

// P12.1: records of each number of Items applied: each Item whose disk is live stands where it goes, and nothing else is
// touched, the log neither.
func TestApplyOnEachChoice(t *testing.T) {
	for x := range 1 << 4 {
		live := choice(x, 4)
		for _, r := range each(77) {
			b := painted(t, 4)
			put(t, b, everyone(4), each(5)[2])
			want := b.Clone()
			apply(t, b, live, r)
			done := 0
			for _, i := range r.Items {
				if live[i.Disk] {
					set(t, want, i.Disk, i.At, i.Data)
					done++
				}
			}
			sameSectors(t, "applied", b, want)
			if b.Writes() != want.Writes()+done {
				t.Error(live, "writes", b.Writes())
			}
			finds(t, "applied", b, everyone(4), each(5)[2])
		}
	}
}

// P12.1: each place that an Item may go to, alone: it goes there, and nowhere else.
func TestApplyAtEachPlace(t *testing.T) {
	for d := range api.MaxDisks {
		for at := api.Data; at < api.Size; at++ {
			b := newBench(t, api.MaxDisks)
			want := b.Clone()
			apply(t, b, everyone(api.MaxDisks), of(1, to(3, d, at)))
			set(t, want, d, at, to(3, d, at).Data)
			sameSectors(t, "applied", b, want)
		}
	}
}

// P12.1: an Item is written anew where its very bytes stand already: it counts, and takes the power.
func TestAppliedAgain(t *testing.T) {
	b, r := newBench(t, 4), each(6)[3]
	for i := range 3 {
		apply(t, b, everyone(4), r)
		if b.Writes() != 3*(i+1) {
			t.Error("writes", b.Writes())
		}
	}
	b.Limit(0)
	is(t, "Apply", log.Apply(b, everyone(4), r), api.ErrDown)
}

// P12.1: a live of fewer entries than there are disks, of none, and of more: the rest is not live, and what is past the
// disks is none of them. No disk live: nothing is done, with power or without, and there is no record.
func TestLengthsOfLive(t *testing.T) {
	r := of(5, to(5, 0, 40), to(5, 1, 41), to(5, 2, 42))
	for size := range 11 {
		for x := range 1 << min(size, 4) {
			live := choice(x|0x7F0, size)
			padded := [3]bool{}
			copy(padded[:], live)
			b := newBench(t, 3)
			c := b.Clone()
			put(t, b, live, r)
			put(t, c, padded[:], r)
			same(t, "Put", b, c)
			if b.Writes() != 4*count(padded[:]) {
				t.Error(live, "writes", b.Writes())
			}
			apply(t, b, live, r)
			apply(t, c, padded[:], r)
			same(t, "Apply", b, c)
			if b.Writes() != 5*count(padded[:]) {
				t.Error(live, "writes", b.Writes())
			}
			put(t, b, everyone(3), r)
			if count(padded[:]) == 0 {
				findsNone(t, "none is live", b, live)
			} else {
				finds(t, "some are live", b, live, r)
			}
		}
	}
	b := newBench(t, 3)
	put(t, b, everyone(3), r)
	was := b.Clone()
	for _, live := range [][]bool{nil, {}, {false}, {false, false, false}, {false, false, false, true, true}} {
		is(t, "Put", log.Put(b, live, of(6)), api.OK)
		is(t, "Apply", log.Apply(b, live, r), api.OK)
		same(t, "none is live", b, was)
	}
	b.Limit(0)
	is(t, "Write", b.Write(0, 40, full(1)), api.ErrDown)
	for _, live := range [][]bool{nil, {false, false}, {false, false, false, true}} {
		is(t, "Put without power", log.Put(b, live, of(6)), api.OK)
		is(t, "Apply without power", log.Apply(b, live, r), api.OK)
		findsNone(t, "without power", b, live)
	}
}

// P12.1: of each disk any of some records, or none, with Items of its own: Get of each choice of live tells the one of
// the greatest Seq, of several the first live disk's, whatever stands on the disks that are not live.
func TestGreatest(t *testing.T) {
	for x := range 1 << 8 {
		b := newBench(t, 4)
		var on [4]record.Record
		for d := range on {
			seq := []int{0, 255, 256, 65536}[x>>(2*d)&3]
			if seq == 0 {
				continue
			}
			on[d] = of(seq, to(100+d, d, 40), to(100+d, 3-d, 41))
			put(t, b, choice(1<<d, 4), on[d])
		}
		for y := range 1 << 4 {
			live := choice(y, 4)
			var want record.Record
			for d := range on {
				if live[d] && on[d].Seq > want.Seq {
					want = on[d]
				}
			}
			findsOr(t, "of these", b, live, want)
		}
	}
}

// P12.1: of several with the greatest Seq, each with other Items or other Data, the first live disk's, by hand.
func TestFirstOfSeveral(t *testing.T) {
	b := newBench(t, 4)
	older, one, two, three := of(8, to(1, 0, 40)), of(9, to(1, 0, 40)), of(9, to(2, 0, 40)), of(9)
	for d, r := range []record.Record{older, one, two, three} {
		put(t, b, choice(1<<d, 4), r)
	}
	finds(t, "all", b, everyone(4), one)
	finds(t, "without disk 1", b, []bool{true, false, true, true}, two)
	finds(t, "without 1 and 2", b, []bool{true, false, false, true}, three)
	finds(t, "the first alone", b, []bool{true}, older)
	is(t, "Fail", b.Fail(1), api.OK)
	finds(t, "disk 1 has failed", b, everyone(4), two)
}

// P12.1: a disk that is not live has the greatest Seq: it is not asked.
func TestGreatestIsNotLive(t *testing.T) {
	for d := range 4 {
		b := newBench(t, 4)
		put(t, b, everyone(4), each(5)[3])
		put(t, b, choice(1<<d, 4), each(6)[1])
		finds(t, "it is not live", b, choice(15&^(1<<d), 4), each(5)[3])
		finds(t, "it is live", b, everyone(4), each(6)[1])
	}
}

// P12.1: the least and the greatest Seq, beside each other too; one more, or less, may not be.
func TestSeqBounds(t *testing.T) {
	for _, seq := range []int{1, 2, 127, 128, 255, 256, 65535, 65536, 1<<24 - 1, 1 << 24, greatest - 1, greatest} {
		b, r := newBench(t, 3), of(seq, to(seq, 1, 50))
		put(t, b, everyone(3), r)
		finds(t, "alone", b, everyone(3), r)
		apply(t, b, everyone(3), r)
		stands(t, b, 1, 50, r.Items[0].Data)
		for first := range 2 {
			c := newBench(t, 2)
			put(t, c, choice(1<<first, 2), r)
			put(t, c, choice(2>>first, 2), of(greatest))
			if seq < greatest {
				finds(t, "beside the greatest", c, everyone(2), of(greatest))
			}
			put(t, c, choice(2>>first, 2), of(1))
			if seq > 1 {
				finds(t, "beside the least", c, everyone(2), r)
			}
		}
	}
}

// P12.1: an Item whose Disk is not live, or is none of the bench's, is kept by Put and Get, and passed over by Apply,
// wherever among the Items it is.
func TestItemsElsewhere(t *testing.T) {
	here := to(1, 1, 40)
	for _, other := range []record.Item{to(1, 0, 41), to(1, 3, 41), to(1, 4, 41), to(1, 7, api.Size-1)} {
		for _, items := range [][]record.Item{{other}, {other, here}, {here, other}, {other, here, to(1, 1, 42)}, {here, to(1, 1, 42), other}} {
			for _, live := range [][]bool{{false, true, true}, {false, true, true, true, true, true, true, true}, {false, true}} {
				b, r := painted(t, 3), of(9, items...)
				put(t, b, live, r)
				finds(t, "put", b, live, r)
				want := b.Clone()
				apply(t, b, live, r)
				done := 0
				for _, x := range items {
					if x.Disk == 1 {
						set(t, want, 1, x.At, x.Data)
						done++
					}
				}
				sameSectors(t, "applied", b, want)
				if b.Writes() != want.Writes()+done {
					t.Error(items, live, "writes", b.Writes())
				}
			}
		}
	}
	// nothing is asked of the bench for them: so nothing hinders
	b := newBench(t, 3)
	b.Limit(0)
	is(t, "Write", b.Write(0, 0, full(0)), api.ErrDown)
	is(t, "Apply", log.Apply(b, []bool{false, true, true}, of(1, to(1, 0, 40), to(1, 5, 40))), api.OK)
	is(t, "Apply", log.Apply(b, everyone(3), of(1)), api.OK)
	is(t, "Apply", log.Apply(b, everyone(3), of(1, to(1, 5, 40), to(1, 2, 40))), api.ErrDown)
}

// P12.1: two Items, and three, on one disk, in any order: all of them stand where they go.
func TestItemsOnOneDisk(t *testing.T) {
	x, y, z := to(1, 1, 44), to(2, 1, 43), to(3, 1, api.Size-1)
	for _, items := range [][]record.Item{{x, y}, {y, x}, {x, y, z}, {z, x, y}, {y, to(4, 0, 44), x}} {
		b, r := painted(t, 2), of(3, items...)
		want := b.Clone()
		apply(t, b, everyone(2), r)
		for _, i := range items {
			set(t, want, i.Disk, i.At, i.Data)
		}
		sameSectors(t, "applied", b, want)
		put(t, b, everyone(2), r)
		finds(t, "put", b, everyone(2), r)
		b.Crash()
		for _, i := range items {
			stands(t, b, i.Disk, i.At, i.Data)
		}
	}
}

// wrong is Records that may not be.
func wrong() []record.Record {
	good := to(1, 0, 40)
	at := func(disk, at int) record.Record {
		return of(5, good, record.Item{Disk: disk, At: at, Data: full(1)})
	}
	with := func(b []byte) record.Record {
		return of(5, good, record.Item{Disk: 1, At: 40, Data: b})
	}
	return []record.Record{
		{}, of(0), of(0, good), of(-1, good), of(greatest+1, good), of(1<<32, good), of(1<<32+5, good), of(math.MaxInt, good), of(math.MinInt, good),
		of(5, good, to(1, 1, 40), to(1, 2, 40), to(1, 3, 40)), of(5, make([]record.Item, 1)...), of(5, make([]record.Item, 200)...),
		at(-1, 40), at(api.MaxDisks, 40), at(256, 40), at(1<<32, 40), at(math.MinInt, 40),
		at(0, api.Data-1), at(0, api.Size), at(0, 0), at(0, -1), at(0, 256+41), at(0, math.MaxInt),
		with(nil), with([]byte{}), with(make([]byte, api.Sector-1)), with(make([]byte, api.Sector+1)), with(make([]byte, 1000)),
		of(5, good, good), of(5, good, to(2, 0, 40)), of(5, to(1, 1, 41), good, to(2, 1, 41)),
	}
}

// P12.1, R2: of a record that may not be nothing is written, by Put nor by Apply; it is told ahead of all that may be
// wrong with the bench.
func TestMayNotBe(t *testing.T) {
	for i, r := range wrong() {
		b := painted(t, 3)
		put(t, b, everyone(3), each(4)[2])
		is(t, "Write", b.Write(1, 45, full(2)), api.OK)
		was := b.Clone()
		for _, live := range [][]bool{everyone(3), {true}, nil, everyone(9)} {
			is(t, "Put", log.Put(b, live, r), api.ErrArg)
			is(t, "Apply", log.Apply(b, live, r), api.ErrArg)
			same(t, "refused", b, was)
		}
		finds(t, "refused", b, everyone(3), each(4)[2])
		is(t, "Fail", b.Fail(0), api.OK)
		b.Limit(0)
		is(t, "no write is left: Put", log.Put(b, everyone(3), r), api.ErrArg)
		is(t, "no write is left: Apply", log.Apply(b, everyone(3), r), api.ErrArg)
		if b.Down() {
			t.Error(i, "down")
		}
		is(t, "Write", b.Write(1, 46, full(2)), api.ErrDown)
		is(t, "without power: Put", log.Put(b, everyone(3), r), api.ErrArg)
		is(t, "without power: Apply", log.Apply(b, everyone(3), r), api.ErrArg)
	}
}

// P12.1: disks that have failed, whichever they are, live or not, are passed over by Put, Get and Apply.
func TestFailed(t *testing.T) {
	for f := range 1 << 4 {
		for x := range 1 << 4 {
			failed, live := choice(f, 4), choice(x, 4)
			b, r := painted(t, 4), each(9)[3]
			put(t, b, everyone(4), each(8)[2])
			for d := range failed {
				if failed[d] {
					is(t, "Fail", b.Fail(d), api.OK)
				}
			}
			want := b.Clone()
			done := 0
			for d := range live {
				if live[d] && !failed[d] {
					lay(t, want, d, sectorsOf(r))
					done += 4
				}
			}
			put(t, b, live, r)
			sameSectors(t, "put", b, want)
			for _, i := range r.Items {
				if live[i.Disk] && !failed[i.Disk] {
					set(t, want, i.Disk, i.At, i.Data)
					done++
				}
			}
			apply(t, b, live, r)
			sameSectors(t, "applied", b, want)
			if b.Writes() != want.Writes()+done {
				t.Error(failed, live, "writes", b.Writes())
			}
			for y := range 1 << 4 {
				switch {
				case y&^f == 0:
					findsNone(t, "all of these have failed", b, choice(y, 4))
				case y&^f&x == 0:
					finds(t, "none of these was live", b, choice(y, 4), each(8)[2])
				default:
					finds(t, "one of these was live", b, choice(y, 4), r)
				}
			}
		}
	}
}

// P12.1: a new disk in the place of a failed one has no record, till one is put there.
func TestReplaced(t *testing.T) {
	b := newBench(t, 3)
	put(t, b, everyone(3), each(9)[1])
	is(t, "Fail", b.Fail(1), api.OK)
	is(t, "Replace", b.Replace(1), api.OK)
	findsNone(t, "the new one", b, []bool{false, true})
	finds(t, "the others", b, everyone(3), each(9)[1])
	put(t, b, everyone(3), each(10)[2])
	finds(t, "the new one", b, []bool{false, true}, each(10)[2])
}

// P12.1: no power ahead of a call: Put and Apply tell it, of failed disks too; Get finds none; nothing changes.
func TestDownAhead(t *testing.T) {
	b := painted(t, 4)
	put(t, b, everyone(4), each(3)[3])
	is(t, "Write", b.Write(2, 41, full(7)), api.OK)
	is(t, "Fail", b.Fail(1), api.OK)
	b.Limit(0)
	is(t, "Write", b.Write(0, 41, full(7)), api.ErrDown)
	was := b.Clone()
	for x := 1; x < 1<<4; x++ {
		for _, r := range each(9) {
			is(t, "Put", log.Put(b, choice(x, 4), r), api.ErrDown)
		}
		is(t, "Apply", log.Apply(b, choice(x, 4), each(9)[3]), downIf(x&0b1110 != 0))
		is(t, "Apply on a failed one", log.Apply(b, choice(x, 4), of(9, to(9, 1, 40))), downIf(x&0b0010 != 0))
		findsNone(t, "down", b, choice(x, 4))
	}
	same(t, "down", b, was)
	b.Crash()
	finds(t, "the power is back", b, everyone(4), each(3)[3])
	stands(t, b, 2, 41, full(1+2*api.Size+41))
}

// downIf is ErrDown where something is asked of a bench without power.
func downIf(asked bool) api.Errno {
	if asked {
		return api.ErrDown
	}
	return api.OK
}

// plainGet is Get of some sectors of logs, disk by disk, in the plainest way.
func plainGet(live []bool, on [][][]byte) record.Record {
	var best record.Record
	for d, parts := range on {
		if r, e := record.Decode(parts...); e == api.OK && live[d] && r.Seq > best.Seq {
			best = r
		}
	}
	return best
}

// P12.1: the power goes at each write of a Put, on each choice of disks, with each choice of what survives: disk by disk
// and sector by sector the writes were done, in this order, and Get tells the newest that is whole.
func TestPutCut(t *testing.T) {
	ahead := []record.Record{{}, each(8)[0], each(8)[3], each(10)[2]}
	for x := 1; x < 1<<3; x++ {
		live := choice(x, 3)
		for i, older := range ahead {
			newer := each(9)[(i+2)%4]
			for limit := range 4 * count(live) {
				b := newBench(t, 3)
				if older.Seq > 0 {
					put(t, b, everyone(3), older)
				}
				done := b.Writes()
				b.Limit(limit)
				is(t, "Put", log.Put(b, live, newer), api.ErrDown)
				findsNone(t, "down", b, everyone(3))
				if b.Writes() != done+limit || b.Pending() != limit || !b.Down() {
					t.Error(live, limit, b.Writes(), b.Pending(), b.Down())
				}
				for y := range 1 << limit {
					survives(t, b, live, choice(y, limit), older, newer)
				}
			}
		}
	}
}

// survives fails the test unless behind the crash that keeps these of a cut Put's writes each disk's log, and what Get
// tells of some of them, is what has survived; older stood on all disks (of Seq 0: nothing did).
func survives(t *testing.T, b *bench.Bench, live, keep []bool, older, newer record.Record) {
	t.Helper()
	c := b.Clone()
	c.Crash(keep...)
	on := make([][][]byte, len(live))
	for d := range on {
		on[d] = [][]byte{full(0), full(0), full(0), full(0)}
		if older.Seq > 0 {
			on[d] = sectorsOf(older)
		}
		for i, x := range sectorsOf(newer) {
			if live[d] && len(keep) > 0 {
				if keep[0] {
					on[d][i] = x
				}
				keep = keep[1:]
			}
			stands(t, c, d, api.Log+i, on[d][i])
		}
	}
	for _, ask := range [][]bool{everyone(3), live, choice(1, 3), choice(2, 3), choice(4, 3)} {
		findsOr(t, "what survives", c, ask, plainGet(ask, on))
	}
	put(t, c, live, newer)
	finds(t, "put again", c, live, newer)
}

// P12.1: the power goes at each write of an Apply, on each choice of disks, with each choice of what survives: the Items
// were written in their order; applied again all of them stand.
func TestApplyCut(t *testing.T) {
	r := of(9, to(9, 2, 40), to(9, 0, 41), to(9, 2, 39))
	for x := range 1 << 3 {
		live := choice(x, 3)
		var its []record.Item
		for _, i := range r.Items {
			if live[i.Disk] {
				its = append(its, i)
			}
		}
		for limit := range its {
			b := painted(t, 3)
			put(t, b, everyone(3), r)
			done := b.Writes()
			b.Limit(limit)
			is(t, "Apply", log.Apply(b, live, r), api.ErrDown)
			findsNone(t, "down", b, everyone(3))
			if b.Writes() != done+limit || b.Pending() != limit || !b.Down() {
				t.Error(live, limit, b.Writes(), b.Pending(), b.Down())
			}
			for y := range 1 << limit {
				c, want := b.Clone(), b.Clone()
				c.Crash(choice(byDisk(its[:limit], y), limit)...)
				want.Crash()
				for i, k := range choice(y, limit) {
					if k {
						set(t, want, its[i].Disk, its[i].At, its[i].Data)
					}
				}
				sameSectors(t, "what survives", c, want)
				finds(t, "what survives", c, everyone(3), r)
				apply(t, c, live, r)
				for _, i := range its {
					set(t, want, i.Disk, i.At, i.Data)
				}
				sameSectors(t, "applied again", c, want)
			}
		}
	}
}

// byDisk is the digits of y, one for each of these Items, in the order in which a crash asks for them: disk by disk.
func byDisk(items []record.Item, y int) int {
	z, n := 0, 0
	for d := range api.MaxDisks {
		for i, x := range items {
			if x.Disk == d {
				z |= y >> i & 1 << n
				n++
			}
		}
	}
	return z
}

// P12.1: a limit of just as many writes as a call needs lets it be done and settled: a flush is no write.
func TestPowerSuffices(t *testing.T) {
	r := each(9)[3]
	for x := range 1 << 4 {
		live := choice(x, 4)
		b := newBench(t, 4)
		put(t, b, everyone(4), each(8)[1])
		b.Limit(4 * count(live))
		put(t, b, live, r)
		if b.Down() {
			t.Error(live, "down")
		}
		is(t, "the next", b.Write(0, 40, full(1)), api.ErrDown)
		b.Crash()
		if x == 0 {
			finds(t, "none is live", b, everyone(4), each(8)[1])
		} else {
			finds(t, "put", b, everyone(4), r)
		}
		b.Limit(count([]bool{live[1], live[2], live[3]}))
		apply(t, b, live, r)
		if b.Down() {
			t.Error(live, "down")
		}
		is(t, "the next", b.Write(0, 40, full(1)), api.ErrDown)
		b.Crash()
		for _, i := range r.Items {
			if live[i.Disk] {
				stands(t, b, i.Disk, i.At, i.Data)
			} else {
				stands(t, b, i.Disk, i.At, full(0))
			}
		}
	}
}

// P12.1: each byte of each of the four sectors spoilt, on one disk, and on all: that one's record is none.
func TestSpoilt(t *testing.T) {
	for k, r := range each(9) {
		for i := range 4 {
			for j := range api.Sector {
				parts := sectorsOf(r)
				parts[i][j] ^= 1 << (j % 8)
				b := newBench(t, 3)
				put(t, b, everyone(3), each(8)[k])
				put(t, b, []bool{false, true}, r)
				finds(t, "whole", b, everyone(3), r)
				set(t, b, 1, api.Log+i, parts[i])
				finds(t, "one is spoilt", b, everyone(3), each(8)[k])
				findsNone(t, "that one", b, []bool{false, true})
				for d := range 3 {
					lay(t, b, d, parts)
				}
				findsNone(t, "all are spoilt", b, everyone(3))
				put(t, b, []bool{false, false, true}, of(1))
				finds(t, "put anew", b, everyone(3), of(1))
			}
		}
	}
}

// P12.1: sectors that are no record, though some are sealed: none is found there, nor do they hinder another disk's; the
// sectors beside the log are not asked.
func TestNoRecord(t *testing.T) {
	good := sectorsOf(each(9)[3])
	sealed := func(change func(first []byte)) [][]byte {
		parts := sectorsOf(each(200)[3])
		change(parts[0])
		return seal(parts)
	}
	for i, parts := range [][][]byte{
		{full(0), full(0), full(0), full(0)},
		{full(255), full(255), full(255), full(255)},
		{good[1], good[0], good[2], good[3]},
		{good[0], good[2], good[1], good[3]},
		{good[0], good[1], good[2], full(0)},
		seal([][]byte{full(0), full(0), full(0), full(0)}),
		sealed(func(f []byte) { f[0] = 'X' }),
		sealed(func(f []byte) { copy(f[4:], "\x00\x00\x00\x00") }),
		sealed(func(f []byte) { f[4] = 0x80 }),
		sealed(func(f []byte) { f[8] = 2 }),
		sealed(func(f []byte) { f[8] = 4 }),
		sealed(func(f []byte) { f[9] = api.MaxDisks }),
		sealed(func(f []byte) { f[10] = api.Size }),
		sealed(func(f []byte) { f[10] = api.Data - 1 }),
		sealed(func(f []byte) { copy(f[11:13], f[9:11]) }),
		sealed(func(f []byte) { f[20] = 1 }),
	} {
		b := newBench(t, 3)
		lay(t, b, 1, parts)
		findsNone(t, "alone", b, everyone(3))
		put(t, b, []bool{true, false, true}, of(1, to(i, 1, 40)))
		finds(t, "beside it", b, everyone(3), of(1, to(i, 1, 40)))
	}
	for _, from := range []int{api.SlotA, api.SlotB, api.Log - 1, api.Log + 1, api.Backup, api.Data} {
		b := newBench(t, 2)
		for i, x := range good {
			set(t, b, 0, from+i, x)
		}
		findsNone(t, "elsewhere", b, everyone(2))
	}
}

// P12.1: Put settles what is pending on each live disk; Apply what is pending on the disks of its Items; what is pending
// on others stays so.
func TestPending(t *testing.T) {
	r := of(9, to(9, 1, 40), to(9, 3, 40), to(9, 1, 41))
	for x := range 1 << 4 {
		live := choice(x, 4)
		b := painted(t, 4)
		for d := range 4 {
			for i, at := range []int{0, 30 + d, api.Log + d, 40, 50} {
				is(t, "Write", b.Write(d, at, mixed(d*8+i)), api.OK)
			}
		}
		was := b.Clone()
		want := b.Clone()
		is(t, "Put", log.Put(b, live, r), api.OK)
		for d := range live {
			for i, y := range sectorsOf(r) {
				if live[d] {
					is(t, "Write", want.Write(d, api.Log+i, y), api.OK)
				}
			}
			if live[d] {
				is(t, "Flush", want.Flush(d), api.OK)
			}
		}
		same(t, "put", b, want)
		b, want = was.Clone(), was.Clone()
		is(t, "Apply", log.Apply(b, live, r), api.OK)
		for _, i := range r.Items {
			if live[i.Disk] {
				is(t, "Write", want.Write(i.Disk, i.At, i.Data), api.OK)
			}
		}
		for _, d := range []int{1, 3} {
			if live[d] {
				is(t, "Flush", want.Flush(d), api.OK)
			}
		}
		same(t, "applied", b, want)
	}
}

// P12.1: Get reads what was written last, pending or not, and changes nothing.
func TestGetReadsOnly(t *testing.T) {
	b := painted(t, 3)
	put(t, b, everyone(3), each(5)[3])
	for i, x := range sectorsOf(each(6)[2]) {
		is(t, "Write", b.Write(1, api.Log+i, x), api.OK)
	}
	is(t, "Write", b.Write(2, api.Log, full(0)), api.OK)
	is(t, "Fail", b.Fail(0), api.OK)
	was := b.Clone()
	for range 3 {
		finds(t, "pending", b, everyone(3), each(6)[2])
		findsNone(t, "pending", b, []bool{true, false, true})
	}
	same(t, "asked", b, was)
	b.Crash()
	finds(t, "crashed", b, []bool{true, false, true}, each(5)[3])
	b.Limit(0)
	for range 3 {
		finds(t, "no write is left", b, everyone(3), each(5)[3])
	}
	if b.Down() {
		t.Error("Get takes the power")
	}
}

// R4: what is handed in is neither changed nor kept, nor is what lies behind its length.
func TestHandedIn(t *testing.T) {
	memory := [][]byte{append(mixed(1), 1, 2, 3), append(mixed(2), 4, 5, 6), append(mixed(3), 7, 8, 9)}
	items := []record.Item{{Disk: 0, At: 40, Data: memory[0][:32]}, {Disk: 2, At: 41, Data: memory[1][:32]}, {Disk: 9, At: 9, Data: memory[2][:1]}}
	live := []bool{true, false, true, true, false, true}
	wasLive, was, wasMemory := slices.Clone(live), clone(of(0, items...)), [][]byte{slices.Clone(memory[0]), slices.Clone(memory[1]), slices.Clone(memory[2])}
	b, r := newBench(t, 4), of(7, items[:2]...)
	put(t, b, live[:3], r)
	apply(t, b, live[:3], r)
	finds(t, "put", b, live[:3], r)
	is(t, "Put", log.Put(b, live[:3], of(8, items...)), api.ErrArg)
	is(t, "Apply", log.Apply(b, live[:3], of(8, items...)), api.ErrArg)
	b.Limit(1)
	is(t, "Apply", log.Apply(b, live[:3], r), api.ErrDown)
	is(t, "Put", log.Put(b, live[:3], r), api.ErrDown)
	if !slices.Equal(live, wasLive) || !sameRecord(of(0, items...), was) || !slices.EqualFunc(memory, wasMemory, bytes.Equal) {
		t.Error("changed", live, items, memory)
	}
	b.Crash()
	want := clone(r)
	for i := range memory {
		clear(memory[i])
	}
	clear(items)
	clear(live)
	findsNone(t, "not live", b, []bool{false, true, false, true})
	finds(t, "its own way", b, everyone(4), want)
	for _, i := range want.Items {
		stands(t, b, i.Disk, i.At, i.Data)
	}
}

// R4: each Record handed out is new memory, each Item's Data as well: to change it, or to write behind its length,
// changes nothing.
func TestHandedOut(t *testing.T) {
	b, want := newBench(t, 3), each(7)[3]
	put(t, b, everyone(3), want)
	one, _ := log.Get(b, everyone(3))
	two, _ := log.Get(b, everyone(3))
	for i := range one.Items {
		_ = append(one.Items[i].Data, 1, 2, 3, 4, 5, 6, 7, 8)
		clear(one.Items[i].Data)
	}
	_ = append(one.Items[:1], record.Item{Disk: 5, At: 50, Data: full(5)})
	if !sameRecord(two, want) {
		t.Error("two answers share memory", two)
	}
	finds(t, "asked again", b, everyone(3), want)
	three, _ := log.Get(b, everyone(3))
	for i := range three.Items {
		_ = append(three.Items[i].Data, bytes.Repeat([]byte{0xEE}, 3*api.Sector)...)
		if !sameRecord(three, want) {
			t.Error("an Item's Data lies behind another's", i)
		}
	}
	put(t, b, everyone(3), each(8)[2])
	apply(t, b, everyone(3), each(8)[2])
	if !sameRecord(two, want) {
		t.Error("an answer changes behind its call", two)
	}
}

// R5: two benches, and a bench and its clone, have nothing to do with each other.
func TestEachBenchByItself(t *testing.T) {
	b, c := newBench(t, 2), newBench(t, 5)
	put(t, b, everyone(2), each(3)[1])
	findsNone(t, "another bench", c, everyone(5))
	put(t, c, []bool{false, true}, each(2)[2])
	d := b.Clone()
	put(t, d, []bool{true}, each(9)[3])
	apply(t, d, everyone(2), each(9)[3])
	finds(t, "one", b, everyone(2), each(3)[1])
	finds(t, "another", c, everyone(5), each(2)[2])
	finds(t, "a clone", d, everyone(2), each(9)[3])
	stands(t, b, 1, 47, full(0))
}
