package window_test

import (
	"testing"

	"wattle/api"
	"wattle/backup"
	"wattle/bench"
)

// movedUpTo is a bench of the new geometry's disks, of which the windows below k are moved.
func movedUpTo(t *testing.T, p pair, k int) *bench.Bench {
	t.Helper()
	b := laid(t, p, p.to.Disks)
	lay(t, b, p, p.to, 0, k*p.rows())
	return b
}

// survivors is a choice of so many writes: nothing, all, first ones, last ones, and mixed ones.
func survivors(way, seed, size int) []bool {
	switch way {
	case 0:
		return nil
	case 1:
		return everyone(size)
	case 2:
		return everyone(size / 2)
	case 3:
		return append(make([]bool, size/2), everyone(size-size/2)...)
	}
	l := make([]bool, size)
	for i, c := range mixed(seed*8+way, size) {
		l[i] = c < 64*byte(way-3)
	}
	return l
}

// goesOn fails the test unless, behind a crash in the midst of Write of window k, the windows behind it are read as they
// were written, and, when it is written again and they are moved, all stands as it is to; out is the disks that are lost.
func goesOn(t *testing.T, crashed *bench.Bench, live []bool, p pair, k, out int) {
	t.Helper()
	b := crashed.Clone()
	for next := k + 1; next < p.windows(); next++ {
		reads(t, b, live, p, next, p.contents(next))
	}
	if e := write(b, live, p, k, p.contents(k)); e != api.OK || b.Pending() != 0 {
		t.Fatal(p, k, "written again", e, b.Pending())
	}
	for next := k + 1; next < p.windows(); next++ {
		moves(t, b, live, p, next)
	}
	hasEnd(t, b, p, out)
}

// P20.1, R2: the power goes at each write of each window: what was written ahead of it stays as it is, row by row, and
// nothing else is written. A limit of just as many as are to be made is enough: a flush is no write.
func TestPowerGoes(t *testing.T) {
	for _, p := range few() {
		start := painted(t, api.MaxDisks)
		for k := range p.windows() {
			data := several(k, p.size())
			all := p.rows() * p.to.Disks
			for limit := range all + 2 {
				b, want := start.Clone(), start.Clone()
				b.Limit(limit)
				want.Limit(limit)
				e := write(b, everyone(api.MaxDisks), p, k, data)
				is(t, "Write", e, written(want, everyone(api.MaxDisks), p, k, data))
				if (e == api.OK) != (limit >= all) || (e == api.ErrDown) != b.Down() || b.Writes() != min(limit, all) {
					t.Error(p, k, limit, e, b.Writes())
				}
				same(t, "the power goes", b, want)
			}
		}
	}
}

// P20.1: the same with disks gone: what a lost disk would have had to write is none of the writes.
func TestPowerGoesWithGone(t *testing.T) {
	for _, p := range few() {
		start := painted(t, p.to.Disks)
		for _, mask := range masks(p.to.Disks, 2) {
			k := mask % p.windows()
			b := start.Clone()
			live := gone(b, mask, mask)
			for limit := mask % 3; limit < p.rows()*p.to.Disks+1; limit += 3 {
				c := b.Clone()
				c.Limit(limit)
				writes(t, c, live, p, k, several(k, p.size()))
			}
		}
	}
}

// P20.1: small cases: the power goes at each write, with each choice of what survives; the window is written again, and
// all those behind it are moved.
func TestEachCrash(t *testing.T) {
	for _, p := range []pair{{at(5, 3, 1), at(5, 4, 1)}, {at(5, 3, 1), at(5, 3, 2)}, {at(6, 4, 2), at(6, 4, 1)}} {
		for _, k := range []int{0, 1, p.windows() / 2, p.windows() - 1} {
			start := movedUpTo(t, p, k)
			for limit := range p.rows() * p.to.Disks {
				b := start.Clone()
				b.Limit(limit)
				is(t, "Write", write(b, everyone(p.to.Disks), p, k, p.contents(k)), api.ErrDown)
				if b.Pending() != limit {
					t.Error(p, k, limit, b.Pending())
				}
				for x := range 1 << limit {
					c := b.Clone()
					c.Crash(choice(x, limit)...)
					goesOn(t, c, everyone(p.to.Disks), p, k, 0)
				}
			}
		}
	}
}

// P20.1: larger cases, each window, with many choices of what survives; from the old geometry read ahead of the crash.
func TestManyCrashes(t *testing.T) {
	for _, p := range few() {
		for k := range p.windows() {
			start := movedUpTo(t, p, k)
			for limit := k % 3; limit < p.rows()*p.to.Disks; limit += 3 {
				b := start.Clone()
				data, e := read(b, everyone(p.to.Disks), p, k)
				is(t, "Read", e, api.OK)
				b.Limit(limit)
				is(t, "Write", write(b, everyone(p.to.Disks), p, k, data), api.ErrDown)
				for way := range 7 {
					c := b.Clone()
					c.Crash(survivors(way, limit*16+k, limit)...)
					goesOn(t, c, everyone(p.to.Disks), p, k, 0)
				}
			}
		}
	}
}

// P20.1: the same with a disk lost from the beginning, or at the crash, and with two of level 6.
func TestCrashWithGone(t *testing.T) {
	for i, p := range few() {
		most := budget(p.a)
		for _, mask := range masks(p.to.Disks, most) {
			if digits(mask) < most {
				continue
			}
			k := mask % p.windows()
			for limit := mask % 5; limit < p.rows()*(p.to.Disks-most); limit += 5 {
				b := movedUpTo(t, p, k)
				early := mask
				if limit%2 == 1 {
					early = mask & (mask - 1) // the lowest is lost at the crash
				}
				b.Limit(limit)
				is(t, "Write", write(b, gone(b, early, i), p, k, p.contents(k)), api.ErrDown)
				live := gone(b, mask, i)
				b.Crash(survivors(limit%7, limit, b.Pending())...)
				goesOn(t, b, live, p, k, mask)
			}
		}
	}
}

// P20.1: the power goes at the flush: each write is made, and none of it settled.
func TestCrashAtFlush(t *testing.T) {
	for _, p := range few() {
		for k := range p.windows() {
			b := movedUpTo(t, p, k)
			for row := k * p.rows(); row < (k+1)*p.rows(); row++ {
				for d, x := range sectorsOf(chart(p.to)[row], p.content) {
					is(t, "Write by hand", b.Write(d, api.Data+row, x), api.OK)
				}
			}
			for way := range 7 {
				c := b.Clone()
				c.Crash(survivors(way, k, b.Pending())...)
				goesOn(t, c, everyone(p.to.Disks), p, k, 0)
			}
		}
	}
}

// P20.1: crash behind crash, each in the midst of the window that is written again behind the one ahead, and then one that
// is done.
func TestCrashAfterCrash(t *testing.T) {
	for _, p := range few() {
		all := p.rows() * p.to.Disks
		for k := range p.windows() {
			b := movedUpTo(t, p, k)
			for i := range 8 {
				b.Limit((i*5 + k) % all)
				is(t, "Write", write(b, everyone(p.to.Disks), p, k, p.contents(k)), api.ErrDown)
				b.Crash(survivors(i%7, k*8+i, b.Pending())...)
			}
			goesOn(t, b, everyone(p.to.Disks), p, k, 0)
		}
	}
}

// P20.1, T2, T3: as a window is moved: its sectors are kept in a backup ahead of the Write; when that is cut off, and a
// disk is lost at the crash, what the backup has is written again.
func TestWrittenOfBackup(t *testing.T) {
	for _, p := range append(few(), pair{at(5, 8, 2), at(5, 8, 4)}) {
		for k := range p.windows() {
			for out := range p.to.Disks {
				b, live := movedUpTo(t, p, k), everyone(p.to.Disks)
				data, e := read(b, live, p, k)
				is(t, "Read", e, api.OK)
				is(t, "Put", backup.Put(b, live, 7, k, data...), api.OK)
				b.Limit((out*5 + k*3) % (p.rows() * p.to.Disks))
				is(t, "Write", write(b, live, p, k, data), api.ErrDown)
				b.Crash(survivors((out+k)%7, k, b.Pending())...)
				live = gone(b, 1<<out, k)
				kept, ok := backup.Get(b, live, 7, k)
				if !ok || !alike(kept, p.contents(k)) {
					t.Fatal(p, k, "the backup is lost")
				}
				is(t, "Write", write(b, live, p, k, kept), api.OK)
				for next := k + 1; next < p.windows(); next++ {
					moves(t, b, live, p, next)
				}
				hasEnd(t, b, p, 1<<out)
			}
		}
	}
}

// P20.1: behind a Write that is OK a crash changes nothing, whatever it keeps: also what was pending ahead of it there is
// settled with it.
func TestCrashBehind(t *testing.T) {
	for _, p := range few() {
		b, live := laid(t, p, p.to.Disks), everyone(p.to.Disks)
		for k := range p.windows() {
			is(t, "Write by hand", b.Write(k%p.to.Disks, api.Data+k*p.rows(), full(7)), api.OK)
			is(t, "Write", write(b, live, p, k, p.contents(k)), api.OK)
			b.Crash()
			if k+1 < p.windows() {
				reads(t, b, live, p, k+1, p.contents(k+1))
			}
		}
		hasEnd(t, b, p, 0)
	}
}

// P20.1, R2: no power ahead of the calls: a window that has sectors of the old end can't be read, and none be written;
// nothing changes. One that is past the old end in whole asks nothing of the bench: it is zeros.
func TestNoPower(t *testing.T) {
	for i, p := range few() {
		b := laid(t, p, p.to.Disks)
		is(t, "Write by hand", b.Write(0, api.Data+3, full(3)), api.OK)
		cut(t, b)
		for k := range p.windows() {
			for d := -1; d < p.to.Disks; d++ {
				live := everyone(p.to.Disks)
				if d >= 0 {
					live[d] = false
				}
				writesNone(t, b, live, p, k, several(i, p.size()), api.ErrDown)
				if p.held(k) > 0 {
					readsNone(t, b, live, p, k, api.ErrDown)
				} else {
					reads(t, b, live, p, k, zeros(p.size()))
				}
			}
		}
	}
}

// P20.1, R2: the power is back: what was refused is done.
func TestPowerBack(t *testing.T) {
	for _, p := range few() {
		b, live := laid(t, p, p.to.Disks), everyone(p.to.Disks)
		for k := range p.windows() {
			cut(t, b)
			writesNone(t, b, live, p, k, p.contents(k), api.ErrDown)
			b.Crash()
			moves(t, b, live, p, k)
		}
		hasEnd(t, b, p, 0)
	}
}
