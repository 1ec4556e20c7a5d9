package bench_test

import (
	"bytes"
	"math"
	"slices"
	"strconv"
	"testing"

	"wattle/api"
	"wattle/bench"
)

// is fails the test unless the answer is the one wanted.
func is(t *testing.T, name string, got, want api.Errno) {
	t.Helper()
	if got != want {
		t.Errorf("%s: %d; want %d", name, got, want)
	}
}

// stands fails the test unless x is what stands on disk d at that sector.
func stands(t *testing.T, b *bench.Bench, d, at int, x []byte) {
	t.Helper()
	if got, e := b.Read(d, at); e != api.OK || !bytes.Equal(got, x) {
		t.Errorf("Read %d, %d: %v, %d; want %v", d, at, got, e, x)
	}
}

// counts fails the test unless so many writes are counted, so many are pending, and there is no power if down.
func counts(t *testing.T, b *bench.Bench, writes, pending int, down bool) {
	t.Helper()
	if b.Writes() != writes || b.Pending() != pending || b.Down() != down {
		t.Errorf("Writes %d, Pending %d, Down %v; want %d, %d, %v", b.Writes(), b.Pending(), b.Down(), writes, pending, down)
	}
}

// newBench is a new bench of so many disks.
func newBench(t *testing.T, disks int) *bench.Bench {
	t.Helper()
	return newPair(t, disks).b
}

// P6.1: one disk, as many as there may be, and all between: each all zeros, none failed; there is power, nothing is
// counted nor pending.
func TestNew(t *testing.T) {
	for n := 1; n <= api.MaxDisks; n++ {
		p := newPair(t, n)
		if p.b.Down() || p.b.Len() != n {
			t.Error(n, p.b.Down(), p.b.Len())
		}
		p.agrees("new")
	}
	for _, n := range []int{0, -1, math.MinInt, api.MaxDisks + 1, api.MaxDisks + 2, 256, 257, math.MaxInt} {
		if b, e := bench.New(n); b != nil || e != api.ErrArg {
			t.Error(n, b, e)
		}
	}
}

// P6.1: a write is on its own disk alone, and Read tells the last one; a flush settles its own disk alone.
func TestEachDiskByItself(t *testing.T) {
	for n := 1; n <= api.MaxDisks; n++ {
		p := newPair(t, n)
		for d := range n {
			p.write(d, 0, sector(10*d))
			p.write(d, 51-d, sector(10*d+1))
			p.write(d, 0, sector(10*d+2))
			p.agrees("written")
		}
		for d := range n {
			p.flush(d)
			p.agrees("flushed " + strconv.Itoa(d))
		}
		counts(t, p.b, 3*n, 0, false)
		p.crash()
		p.agrees("crashed")
	}
}

// P6.1: a Write that the disk would do counts, one of what stands there already too; nothing else does.
func TestWhatCounts(t *testing.T) {
	p := newPair(t, 3)
	p.write(0, 1, of(1))
	p.write(0, 1, of(1))
	p.write(2, 51, of(0))
	counts(t, p.b, 3, 3, false)
	for range 2 {
		p.write(3, 1, of(1))
		p.write(-1, 1, of(1))
		p.write(0, api.Size, of(1))
		p.write(0, -1, of(1))
		p.write(0, 1, nil)
		p.write(0, 1, of(1)[:31])
		p.write(0, 1, make([]byte, 33))
		p.damage(1, 4, of(2))
		p.flush(2)
		p.b.Read(0, 1)
		counts(t, p.b, 3, 2, false)
	}
	p.fail(1)
	p.write(1, 1, of(1))
	p.replace(1)
	counts(t, p.b, 3, 2, false)
	p.write(1, 1, of(1))
	counts(t, p.b, 4, 3, false)
	p.crash(true, true, true)
	counts(t, p.b, 4, 0, false)
	p.fail(0)
	counts(t, p.b, 4, 0, false)
	p.agrees("all done")
}

// P6.1: as many writes as the limit says are done, whichever disks they are on; the next one is not, and from then on
// there is no power; it does not count.
func TestLimit(t *testing.T) {
	for n := range 7 {
		p := newPair(t, 3)
		p.write(1, 9, of(9))
		p.limit(n)
		for i := range n {
			p.write(i%3, i, sector(i))
			counts(t, p.b, 2+i, 2+i, false)
		}
		is(t, "the next", p.b.Write(0, 40, of(4)), api.ErrDown)
		p.a.down = true
		counts(t, p.b, 1+n, 1+n, true)
		p.agrees("down")
		is(t, "and one more", p.b.Write(1, 40, of(4)), api.ErrDown)
		counts(t, p.b, 1+n, 1+n, true)
		// the one that was not done is nowhere
		p.crash(fates(-1, n+9)...)
		stands(t, p.b, 0, 40, of(0))
		stands(t, p.b, 1, 9, of(9))
		p.agrees("crashed")
	}
}

// P6.1: till the write past it comes, a limit that is used up takes no power: all but a write is as ever.
func TestLimitUsedUp(t *testing.T) {
	p := newPair(t, 2)
	p.write(0, 3, of(3))
	p.limit(1)
	p.write(0, 4, of(4))
	counts(t, p.b, 2, 2, false)
	stands(t, p.b, 0, 4, of(4))
	p.flush(0)
	p.damage(0, 5, of(5))
	p.fail(1)
	p.replace(1)
	counts(t, p.b, 2, 0, false)
	p.agrees("used up")
	p.write(1, 0, of(1))
	counts(t, p.b, 2, 0, true)
}

// P6.1: a write that the disk would not do takes nothing of the limit, and no power where the limit is used up: its
// error is the disk's.
func TestLimitAndWrongWrites(t *testing.T) {
	for n := range 3 {
		p := newPair(t, 3)
		p.fail(2)
		p.limit(n)
		for i := range n + 1 {
			for range 3 {
				is(t, "failed", p.b.Write(2, 0, of(1)), api.ErrFailed)
				is(t, "failed, all else wrong", p.b.Write(2, -1, nil), api.ErrFailed)
				is(t, "no such sector", p.b.Write(0, api.Size, of(1)), api.ErrRange)
				is(t, "no such sector", p.b.Write(0, -1, nil), api.ErrRange)
				is(t, "no sector", p.b.Write(0, 0, of(1)[:31]), api.ErrArg)
				is(t, "no sector", p.b.Write(0, 0, nil), api.ErrArg)
				is(t, "no such disk", p.b.Write(3, 0, of(1)), api.ErrArg)
			}
			counts(t, p.b, i, i, false)
			p.write(0, i, of(7))
		}
		counts(t, p.b, n, n, true)
		p.agrees("down")
	}
}

// P6.1: the limit is what it was set to last; below 0 there is none, as at first.
func TestLimitSetAnew(t *testing.T) {
	for _, was := range []int{-1, 0, 1, 2, math.MaxInt} {
		for _, r := range []struct{ limit, done int }{
			{0, 0}, {1, 1}, {2, 2}, {3, 3}, {-1, 9}, {-2, 9}, {math.MinInt, 9}, {9, 9}, {math.MaxInt, 9},
		} {
			p := newPair(t, 2)
			p.limit(was)
			if was > 0 {
				p.write(1, 0, of(1))
			}
			p.limit(r.limit)
			from := p.b.Writes()
			for range 9 {
				p.write(0, 1, of(2))
			}
			if got := p.b.Writes() - from; got != r.done || p.b.Down() != (r.done < 9) {
				t.Error(was, r.limit, got, p.b.Down())
			}
			p.agrees("anew")
		}
	}
}

// P6.1: a limit below 0 stays none, however many writes come.
func TestNoLimitStays(t *testing.T) {
	for _, limit := range []int{-1, -2, -5, math.MinInt} {
		p := newPair(t, 1)
		p.limit(limit)
		for i := range 50 {
			p.write(0, i%5, of(byte(i)))
		}
		counts(t, p.b, 50, 50, false)
	}
}

// P6.1: without power a limit changes nothing: there is none still, and behind the crash there is no limit.
func TestLimitWithoutPower(t *testing.T) {
	for _, limit := range []int{-1, math.MinInt, 0, 1, 5, math.MaxInt} {
		p := newPair(t, 2)
		p.limit(0)
		p.write(0, 0, of(1))
		p.limit(limit)
		counts(t, p.b, 0, 0, true)
		for range 3 {
			is(t, "Write", p.b.Write(0, 0, of(1)), api.ErrDown)
		}
		p.agrees("down")
		p.crash()
		for range 9 {
			p.write(0, 0, of(2))
		}
		counts(t, p.b, 9, 9, false)
		p.agrees("up")
	}
}

// P6.1: a crash ends the limit also where it is not used up, and there was power all the time.
func TestCrashEndsLimit(t *testing.T) {
	for limit := range 4 {
		p := newPair(t, 2)
		p.limit(limit)
		if limit > 1 {
			p.write(0, 0, of(1))
		}
		counts(t, p.b, p.a.writes, p.a.writes, false)
		p.crash(true)
		from := p.b.Writes()
		for range 9 {
			p.write(1, 0, of(2))
		}
		counts(t, p.b, from+9, 9, false)
		p.agrees("no limit")
		// and it can be set again
		p.limit(1)
		p.write(1, 1, of(3))
		p.write(1, 2, of(4))
		counts(t, p.b, from+10, 10, true)
		p.agrees("down again")
	}
}

// P6.1, P6.2: which error comes first: no such disk, no power, then the disk's own: it has failed, there is no such
// sector, it is no sector. What needs no power answers as with it.
func TestWhichErrorFirst(t *testing.T) {
	disks := []int{0, 1, 2, -1, -2, math.MinInt, 3, 4, math.MaxInt}
	places := []int{0, api.Size - 1, -1, math.MinInt, api.Size, math.MaxInt}
	lists := [][]byte{of(1), nil, {}, of(1)[:31], make([]byte, 33), make([]byte, 64)}
	for _, down := range []bool{false, true} {
		p := newPair(t, 3)
		p.fail(1)
		if down {
			p.limit(0)
			p.write(0, 0, of(1))
		}
		before := p.clone()
		for _, d := range disks {
			none := d < 0 || d > 2
			for _, at := range places {
				past := at < 0 || at >= api.Size
				reading := first(none, api.ErrArg, down, api.ErrDown, d == 1, api.ErrFailed, past, api.ErrRange)
				if got, e := p.b.Read(d, at); e != reading || e != api.OK && len(got) != 0 {
					t.Error("Read", down, d, at, got, e)
				}
				for _, x := range lists {
					short := len(x) != api.Sector
					c := p.b.Clone()
					is(t, "Write", c.Write(d, at, x),
						first(none, api.ErrArg, down, api.ErrDown, d == 1, api.ErrFailed, past, api.ErrRange, short, api.ErrArg))
					is(t, "Damage", c.Damage(d, at, x),
						first(none, api.ErrArg, d == 1, api.ErrFailed, past, api.ErrRange, short, api.ErrArg))
				}
			}
			c := p.b.Clone()
			is(t, "Flush", c.Flush(d), first(none, api.ErrArg, down, api.ErrDown, d == 1, api.ErrFailed))
			is(t, "Replace", c.Replace(d), first(none, api.ErrArg, d != 1, api.ErrState))
			is(t, "Fail", c.Fail(d), first(none, api.ErrArg))
			if p.b.Failed(d) != (d == 1) || c.Failed(d) == none {
				t.Error("Failed", down, d, p.b.Failed(d), c.Failed(d))
			}
		}
		before.agrees("clones were asked")
		p.agrees("its clones were asked")
	}
}

// first is the error behind the first true, in pairs of a bool and an Errno.
func first(pairs ...any) api.Errno {
	for i := 0; i < len(pairs); i += 2 {
		if pairs[i].(bool) {
			return pairs[i+1].(api.Errno)
		}
	}
	return api.OK
}

// R2: behind an error, other than that of the write that finds no power, nothing has changed.
func TestNothingChangesByErrors(t *testing.T) {
	for _, down := range []bool{false, true} {
		p := newPair(t, 3)
		p.write(0, 0, of(1))
		p.write(2, 0, of(2))
		p.fail(1)
		p.limit(2)
		if down {
			p.write(0, 1, of(3))
			p.write(0, 1, of(4))
			p.write(0, 1, of(5))
		}
		for _, d := range []int{-1, 3, math.MinInt, math.MaxInt} {
			p.write(d, 0, of(9))
			p.flush(d)
			p.fail(d)
			p.replace(d)
			p.damage(d, 0, of(9))
		}
		for _, at := range []int{-1, api.Size, 0} {
			x := of(9)
			if at == 0 {
				x = x[:31]
			}
			for d := range 3 {
				p.write(d, at, x)
				p.damage(d, at, x)
			}
		}
		p.write(1, 0, of(9))
		p.damage(1, 0, of(9))
		p.flush(1)
		p.replace(0)
		p.replace(2)
		p.agrees("errors only")
		for range 3 {
			p.write(0, 1, of(6))
		}
		p.agrees("the limit is as it was")
	}
}

// P6.1: a crash goes over the disks in order, whatever order their writes came in, each takes as much of keep as it has
// pending; whichever choice it is.
func TestCrashEachChoice(t *testing.T) {
	writes := [][2]int{{2, 0}, {0, 0}, {1, 5}, {0, 0}, {2, 51}, {2, 0}, {0, 7}}
	for x := range 1 << len(writes) {
		p := newPair(t, 4)
		for i, w := range writes {
			p.write(w[0], w[1], sector(i))
		}
		p.crash(fates(x, len(writes))...)
		counts(t, p.b, len(writes), 0, false)
		answers(t, "crashed", p.b, p.a)
		p.crash(true, true, true, true, true, true, true)
		answers(t, "crashed twice", p.b, p.a)
	}
}

// P6.1: one hand-made crash of three disks, two of whose writes are on one sector.
func TestCrashByHand(t *testing.T) {
	b := newBench(t, 3)
	for _, w := range []struct{ d, at, c int }{{2, 3, 1}, {0, 1, 2}, {2, 3, 3}, {0, 1, 4}} {
		is(t, "Write", b.Write(w.d, w.at, of(byte(w.c))), api.OK)
	}
	counts(t, b, 4, 4, false)
	// disk 0: 2, 4; disk 1: none; disk 2: 1, 3
	b.Crash(true, false, true, false)
	stands(t, b, 0, 1, of(2))
	stands(t, b, 1, 1, of(0))
	stands(t, b, 2, 3, of(1))
	counts(t, b, 4, 0, false)
}

// P6.1: beyond keep's end none stays; what keep has past all that is pending does nothing, to the writes behind the
// crash either.
func TestCrashShortAndLongKeep(t *testing.T) {
	for size := range 13 {
		p := newPair(t, 3)
		for i := range 8 {
			p.write([]int{1, 0, 1, 2, 1, 0, 2, 1}[i], i, sector(i))
		}
		p.crash(fates(-1, size)...)
		p.agrees("crashed")
		p.write(0, 40, of(4))
		p.write(2, 40, of(5))
		p.crash()
		stands(t, p.b, 0, 40, of(0))
		stands(t, p.b, 2, 40, of(0))
		p.agrees("crashed again")
	}
}

// P6.1, R4: nil is as no keep at all, and an empty one.
func TestNilKeep(t *testing.T) {
	for _, keep := range [][]bool{nil, {}} {
		b := newBench(t, 2)
		is(t, "Write", b.Write(1, 0, of(1)), api.OK)
		b.Limit(0)
		is(t, "Write", b.Write(1, 0, of(1)), api.ErrDown)
		b.Crash(keep...)
		stands(t, b, 1, 0, of(0))
		counts(t, b, 1, 0, false)
	}
}

// P6.1: a disk with nothing pending (none written, flushed, failed, replaced) takes nothing of keep.
func TestCrashPassesOver(t *testing.T) {
	for i, still := range []func(*pair){
		func(p *pair) {},
		func(p *pair) { p.write(1, 0, of(9)); p.flush(1) },
		func(p *pair) { p.write(1, 0, of(9)); p.fail(1) },
		func(p *pair) { p.write(1, 0, of(9)); p.fail(1); p.replace(1) },
		func(p *pair) { p.write(1, 0, of(9)); p.damage(1, 0, of(8)) },
	} {
		for x := range 1 << 4 {
			p := newPair(t, 3)
			p.write(0, 0, of(1))
			p.write(0, 1, of(2))
			p.write(2, 0, of(3))
			p.write(2, 1, of(4))
			still(p)
			if p.b.Pending() != 4 {
				t.Fatal(i, p.b.Pending())
			}
			p.crash(fates(x, 4)...)
			answers(t, "passed over", p.b, p.a)
		}
	}
}

// P6.1: power that is gone comes back by a crash, what was pending is settled by it and not ahead of it; Writes goes on
// from the beginning.
func TestCrashGivesPowerBack(t *testing.T) {
	p := newPair(t, 2)
	for round := range 4 {
		p.limit(2)
		for i := range 4 {
			p.write(i%2, round, sector(10*round+i))
		}
		counts(t, p.b, 2*(round+1), 2, true)
		is(t, "Flush", p.b.Flush(0), api.ErrDown)
		counts(t, p.b, 2*(round+1), 2, true)
		p.crash(round&1 == 1, round&2 == 2)
		counts(t, p.b, 2*(round+1), 0, false)
		p.agrees("up")
	}
}

// P6.2: a disk fails with power and without, with writes pending and without: all it had is lost, the others have what
// they had; power and count stay as they are; it may fail again.
func TestFail(t *testing.T) {
	for _, down := range []bool{false, true} {
		for d := range 3 {
			p := newPair(t, 3)
			for i := range 3 {
				p.write(i, 0, sector(i))
				p.flush(i)
				p.write(i, 1, sector(10+i))
				p.write(i, 0, sector(20+i))
			}
			if down {
				p.limit(0)
				p.write(d, 2, of(1))
			}
			for range 2 {
				p.fail(d)
				counts(t, p.b, 9, 4, down)
				if !p.b.Failed(d) {
					t.Error(d, "has not failed")
				}
				p.agrees("failed")
			}
			p.crash(true, false, true, true)
			if !p.b.Failed(d) {
				t.Error(d, "is mended by a crash")
			}
			p.agrees("failed and crashed")
		}
	}
}

// P6.2: behind all disks' failing, calls tell it, and a crash has nothing to settle.
func TestAllFailed(t *testing.T) {
	p := newPair(t, api.MaxDisks)
	for d := range api.MaxDisks {
		p.write(d, d, of(1))
		p.fail(d)
	}
	counts(t, p.b, api.MaxDisks, 0, false)
	p.limit(0)
	for d := range api.MaxDisks {
		is(t, "Write", p.b.Write(d, 0, of(1)), api.ErrFailed)
		is(t, "Flush", p.b.Flush(d), api.ErrFailed)
	}
	p.crash(true, true)
	p.agrees("all failed")
}

// P6.2: only a failed disk is replaced, with power and without: a new disk is in its place, as any other from then on;
// power, limit and count stay as they are.
func TestReplace(t *testing.T) {
	for _, down := range []bool{false, true} {
		p := newPair(t, 3)
		p.write(1, 0, of(1))
		p.flush(1)
		p.write(0, 2, of(2))
		p.limit(1)
		p.write(1, 3, of(3))
		if down {
			p.write(1, 4, of(4))
		}
		is(t, "it has not failed", p.b.Replace(1), api.ErrState)
		p.agrees("not replaced")
		p.fail(1)
		is(t, "another one", p.b.Replace(0), api.ErrState)
		is(t, "it has failed", p.b.Replace(1), api.OK)
		p.a.replace(1)
		is(t, "it has not failed any more", p.b.Replace(1), api.ErrState)
		counts(t, p.b, 3, 1, down)
		p.agrees("replaced")
		// the limit is used up still, or there is no power still
		is(t, "Write", p.b.Write(1, 0, of(5)), api.ErrDown)
		p.a.write(1, 0, of(5))
		p.crash(true)
		stands(t, p.b, 1, 0, of(0))
		p.write(1, 0, of(6))
		p.flush(1)
		p.crash()
		stands(t, p.b, 1, 0, of(6))
		p.agrees("used")
	}
}

// P6.2: damage is at once, with power and without; it is neither pending nor counted, and takes away what is pending at
// its sector, so that keep is of the rest.
func TestDamage(t *testing.T) {
	for _, down := range []bool{false, true} {
		for x := range 1 << 3 {
			p := newPair(t, 2)
			p.write(0, 5, of(1))
			p.write(0, 6, of(2))
			p.write(0, 5, of(3))
			p.write(1, 5, of(4))
			p.write(1, 6, of(5))
			if down {
				p.limit(0)
				p.write(0, 0, of(9))
			}
			p.damage(0, 5, of(77))
			p.damage(1, 51, of(78))
			counts(t, p.b, 5, 3, down)
			p.agrees("damaged")
			p.crash(fates(x, 3)...)
			stands(t, p.b, 0, 5, of(77))
			stands(t, p.b, 1, 51, of(78))
			p.agrees("crashed")
		}
	}
}

// P6.1, R4, R5: a clone is as the bench is, its limit, its count, its power and its pending writes included; each goes
// its own way from then on.
func TestClone(t *testing.T) {
	p := newPair(t, 3)
	p.write(0, 0, of(1))
	p.flush(0)
	p.write(0, 0, of(2))
	p.write(1, 0, of(3))
	p.fail(2)
	p.limit(2)
	p.write(1, 1, of(4))
	c := p.clone()
	c.agrees("clone")
	p.agrees("cloned")
	// each has its own limit, count and power
	c.write(0, 1, of(5))
	c.write(0, 2, of(6))
	counts(t, c.b, 5, 4, true)
	counts(t, p.b, 4, 3, false)
	p.write(1, 2, of(7))
	counts(t, p.b, 5, 4, false)
	p.agrees("its clone is down")
	// a clone of one without power has none
	down := c.clone()
	counts(t, down.b, 5, 4, true)
	c.crash(false, true, true)
	counts(t, down.b, 5, 4, true)
	down.agrees("clone without power")
	down.crash(true)
	down.agrees("up")
	// each has its own disks
	c.replace(2)
	c.write(2, 3, of(8))
	p.agrees("its clone has a new disk")
	p.fail(0)
	p.damage(1, 0, of(9))
	c.agrees("the other has damage")
	down.agrees("the others went their ways")
	p.limit(-1)
	p.write(1, 5, of(9))
	p.crash(true, true, true, true)
	for _, one := range []*pair{p, c, down} {
		one.agrees("each its own way")
	}
}

// P6.1: a limit that a clone took along holds there as well, whatever the other's became.
func TestCloneKeepsLimit(t *testing.T) {
	for limit := range 4 {
		p := newPair(t, 1)
		p.limit(limit)
		c, d := p.clone(), p.clone()
		p.limit(-1)
		d.crash()
		for range 6 {
			p.write(0, 0, of(1))
			c.write(0, 0, of(2))
			d.write(0, 0, of(3))
		}
		counts(t, p.b, 6, 6, false)
		counts(t, c.b, limit, limit, true)
		counts(t, d.b, 6, 6, false)
	}
}

// P6.1: two benches have nothing to do with each other.
func TestTwoBenches(t *testing.T) {
	p, o := newPair(t, 2), newPair(t, 2)
	p.limit(1)
	for i := range 3 {
		p.write(0, i, of(1))
		o.write(1, i, of(2))
	}
	p.fail(1)
	p.agrees("one")
	o.agrees("the other")
}

// P6.1, P6.2: many calls in many orders, right ones and wrong ones, on several disks and on clones, held against the
// account of each bench.
func TestAsAccount(t *testing.T) {
	for seed := range 60 {
		x := uint32(seed)*2654435761 + 1
		next := func(n int) int {
			x = x*1664525 + 1013904223
			return int(x>>8) % n
		}
		pairs := []*pair{newPair(t, 1+seed%api.MaxDisks)}
		places := 1 + next(api.Size)
		for step := range 150 {
			p := pairs[next(len(pairs))]
			d, at, b := next(p.b.Len()), api.Size-1-next(places), sector(1000*seed+step)
			if next(12) == 0 {
				d, at, b = next(11)-1, next(api.Size+2)-1, b[:30+next(3)]
			}
			switch k := next(40); {
			case k < 20:
				p.write(d, at, b)
			case k < 24:
				p.flush(d)
			case k < 27:
				p.damage(d, at, b)
			case k < 29:
				p.fail(d)
			case k < 32:
				p.replace(d)
			case k < 35:
				p.limit(next(9) - 2)
			case k < 38:
				p.crash(fates(next(1<<16), next(20))...)
			case len(pairs) < 3:
				pairs = append(pairs, p.clone())
			}
			p.agrees("in many orders")
		}
		for _, p := range pairs {
			p.agrees("at last")
		}
	}
}

// R4: what is handed in is neither changed nor kept, and what lies behind its length is neither read nor written.
func TestHandedIn(t *testing.T) {
	for i, call := range []func(*bench.Bench, int, int, []byte) api.Errno{(*bench.Bench).Write, (*bench.Bench).Damage} {
		b := newBench(t, 2)
		all := slices.Concat(sector(1), sector(2), sector(3))
		was := slices.Clone(all)
		is(t, "a sector", call(b, 1, 9, all[:32]), api.OK)
		is(t, "too short", call(b, 1, 9, all[:31]), api.ErrArg)
		is(t, "empty", call(b, 1, 9, all[32:32]), api.ErrArg)
		b.Limit(0)
		call(b, 1, 9, all[:32])
		if !bytes.Equal(all, was) {
			t.Error(i, "changed")
		}
		clear(all)
		b.Crash(true)
		stands(t, b, 1, 9, was[:32])
	}
	b := newBench(t, 2)
	for d := range 2 {
		is(t, "Write", b.Write(d, 0, of(1)), api.OK)
		is(t, "Write", b.Write(d, 1, of(2)), api.OK)
	}
	keep := []bool{true, false, true, true, true, false}
	b.Crash(keep[:3]...)
	if !slices.Equal(keep, []bool{true, false, true, true, true, false}) {
		t.Error("keep changed", keep)
	}
	stands(t, b, 0, 0, of(1))
	stands(t, b, 0, 1, of(0))
	stands(t, b, 1, 0, of(1))
	stands(t, b, 1, 1, of(0))
}

// R4: what Read hands out is new memory: to change it, or to write behind its length, changes nothing.
func TestHandedOut(t *testing.T) {
	b := newBench(t, 2)
	is(t, "Write", b.Write(1, 0, of(1)), api.OK)
	is(t, "Write", b.Write(1, 1, of(2)), api.OK)
	for range 3 {
		got, _ := b.Read(1, 0)
		again, _ := b.Read(1, 0)
		cloned, _ := b.Clone().Read(1, 0)
		for i := range got {
			got[i] = 99
		}
		_ = append(got, of(98)...)
		if !bytes.Equal(again, of(1)) || !bytes.Equal(cloned, of(1)) {
			t.Error("two answers share memory")
		}
		stands(t, b, 1, 0, of(1))
		stands(t, b, 1, 1, of(2))
		is(t, "Flush", b.Flush(1), api.OK)
	}
	got, _ := b.Read(1, 0)
	is(t, "Write", b.Write(1, 0, of(3)), api.OK)
	if !bytes.Equal(got, of(1)) {
		t.Error("an answer changes behind its call")
	}
}

// R3: beside an error nothing is handed out.
func TestNothingBesideErrors(t *testing.T) {
	b := newBench(t, 2)
	is(t, "Write", b.Write(0, 0, of(1)), api.OK)
	is(t, "Fail", b.Fail(1), api.OK)
	for _, r := range []struct {
		d, at int
		want  api.Errno
	}{{2, 0, api.ErrArg}, {-1, 0, api.ErrArg}, {0, api.Size, api.ErrRange}, {1, 0, api.ErrFailed}} {
		if x, e := b.Read(r.d, r.at); len(x) != 0 || e != r.want {
			t.Error(r, x, e)
		}
	}
	b.Limit(0)
	is(t, "Write", b.Write(0, 0, of(2)), api.ErrDown)
	if x, e := b.Read(0, 0); len(x) != 0 || e != api.ErrDown {
		t.Error(x, e)
	}
}
