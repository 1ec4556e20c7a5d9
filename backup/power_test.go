package backup_test

import (
	"testing"

	"wattle/api"
	"wattle/backup"
	"wattle/bench"
)

// P19.1, R2: no power ahead of a call: Put tells it, of failed disks too; Get finds none; nothing changes.
func TestDownAhead(t *testing.T) {
	k := kept{4, 4, dataOf(4, 3)}
	b := painted(t, 4)
	put(t, b, everyone(4), k)
	is(t, "Write", b.Write(2, 41, full(7)), api.OK)
	is(t, "Fail", b.Fail(1), api.OK)
	b.Limit(0)
	is(t, "Write", b.Write(0, 41, full(7)), api.ErrDown)
	was := b.Clone()
	for x := 1; x < 1<<4; x++ {
		for _, other := range []kept{k, {5, 4, nil}, {0, 0, dataOf(1, api.MaxWindow)}} {
			refused(t, "down", b, choice(x, 4), other, api.ErrDown)
			findsNone(t, "down", b, choice(x, 4), other.epoch, other.window)
		}
	}
	same(t, "down", b, was)
	b.Crash()
	finds(t, "the power is back", b, everyone(4), k)
	finds(t, "the power is back", b, []bool{false, false, true}, k)
	findsNone(t, "the failed one", b, []bool{false, true}, 4, 4)
	stands(t, b, 0, api.Backup, sectorsOf(k)[0])
}

// P19.1: a limit of just as many writes as a Put needs lets it be done and settled: a flush is no write, nor is what a
// failed disk is passed over for.
func TestPowerSuffices(t *testing.T) {
	elder := kept{4, 4, dataOf(4, 2)}
	for x := range 1 << 4 {
		for _, size := range []int{0, 1, 5, api.MaxWindow} {
			for failed := -1; failed < 4; failed++ {
				live, k := choice(x, 4), kept{4, 5, dataOf(5, size)}
				b := newBench(t, 4)
				put(t, b, everyone(4), elder)
				asked := x
				if failed >= 0 {
					is(t, "Fail", b.Fail(failed), api.OK)
					asked &^= 1 << failed
				}
				b.Limit((1 + size) * count(choice(asked, 4)))
				put(t, b, live, k)
				if b.Down() {
					t.Error(live, "down")
				}
				is(t, "the next", b.Write((failed+1)%4, 40, full(1)), api.ErrDown)
				b.Crash()
				findsIf(t, "settled", asked != 0, b, everyone(4), k)
				findsIf(t, "settled", asked != 0, b, live, k)
			}
		}
	}
}

// has tells whether these sectors, from the first one of a backup on, are those of k.
func has(on [][]byte, k kept) bool {
	for i, x := range sectorsOf(k) {
		if string(on[i]) != string(x) {
			return false
		}
	}
	return true
}

// stretch is the sectors of a disk on which backups stand, beginning with these, the rest zeros.
func stretch(parts [][]byte) [][]byte {
	l := zeros(1 + api.MaxWindow)
	copy(l, parts)
	return l
}

// cuts is some choices of what survives of so many writes: all choices, if they are few.
func cuts(writes int) [][]bool {
	if writes <= 7 {
		l := make([][]bool, 1<<writes)
		for x := range l {
			l[x] = choice(x, writes)
		}
		return l
	}
	l := [][]bool{nil, everyone(writes)}
	for _, at := range []int{0, 1, writes / 2, writes - 2, writes - 1} {
		without, only := everyone(writes), make([]bool, writes)
		without[at], only[at] = false, true
		l = append(l, without, only, everyone(at))
	}
	x := uint32(writes)*2654435761 + 1
	for range 6 {
		keep := make([]bool, writes)
		for i := range keep {
			x = x*1664525 + 1013904223
			keep[i] = x>>31 == 1
		}
		l = append(l, keep)
	}
	return l
}

// P19.1: the power goes at each write of a Put, on each choice of disks, over nothing and over elder ones, with choices of
// what survives: the sectors were written disk by disk, in their order, and Get tells of each name what is whole.
func TestPutCut(t *testing.T) {
	none := kept{epoch: -1}
	for x := 1; x < 1<<3; x++ {
		for _, size := range []int{0, 1, 2, 4} {
			newer := kept{0x0300, 5, dataOf(size, size)}
			for _, elder := range []kept{none, {0x02FF, 5, dataOf(9, 2)}, {0x0300, 4, dataOf(size, size)}, {0x0300, 5, dataOf(8, 3)}, {0x0300, 5, dataOf(7, 0)}} {
				cut(t, elder, newer, choice(x, 3))
			}
		}
	}
	cut(t, none, kept{1, 1, dataOf(1, api.MaxWindow)}, everyone(3))
	cut(t, kept{1, 0, dataOf(2, api.MaxWindow)}, kept{1, 1, zeros(api.MaxWindow)}, everyone(3))
	cut(t, kept{1, 1, dataOf(2, api.MaxWindow)}, kept{1, 1, dataOf(3, 20)}, everyone(3))
}

// cut cuts off a Put of newer on the live disks at each of its writes; elder stands on all disks (of epoch -1: nothing).
func cut(t *testing.T, elder, newer kept, live []bool) {
	t.Helper()
	for limit := range (1 + len(newer.data)) * count(live) {
		b := newBench(t, len(live))
		if elder.epoch >= 0 {
			put(t, b, everyone(len(live)), elder)
		}
		done := b.Writes()
		b.Limit(limit)
		refused(t, "cut", b, live, newer, api.ErrDown)
		findsNone(t, "down", b, everyone(len(live)), newer.epoch, newer.window)
		findsNone(t, "down", b, everyone(len(live)), elder.epoch, elder.window)
		if b.Writes() != done+limit || b.Pending() != limit || !b.Down() {
			t.Error(live, limit, b.Writes(), b.Pending(), b.Down())
		}
		for _, keep := range cuts(limit) {
			survives(t, b, live, keep, elder, newer)
		}
	}
}

// survives fails the test unless behind the crash that keeps these of a cut Put's writes each disk's sectors, and what Get
// tells of some of them, is what has survived.
func survives(t *testing.T, b *bench.Bench, live, keep []bool, elder, newer kept) {
	t.Helper()
	c := b.Clone()
	c.Crash(keep...)
	on := make([][][]byte, len(live))
	for d := range on {
		on[d] = stretch(nil)
		if elder.epoch >= 0 {
			on[d] = stretch(sectorsOf(elder))
		}
		for i, x := range sectorsOf(newer) {
			if live[d] && len(keep) > 0 {
				if keep[0] {
					on[d][i] = x
				}
				keep = keep[1:]
			}
		}
		for i, x := range on[d] {
			stands(t, c, d, api.Backup+i, x)
		}
	}
	for _, ask := range [][]bool{everyone(3), live, choice(1, 3), choice(2, 3), choice(4, 3)} {
		for _, name := range []kept{elder, newer} {
			firstOf(t, c, ask, on, name, elder, newer)
		}
	}
	put(t, c, live, newer)
	finds(t, "put again", c, live, newer)
}

// firstOf fails the test unless Get, of that name, answers the first of these backups that is on these disks.
func firstOf(t *testing.T, b *bench.Bench, ask []bool, on [][][]byte, name kept, of ...kept) {
	t.Helper()
	for d := range on {
		for _, k := range of {
			if ask[d] && k.epoch >= 0 && k.epoch == name.epoch && k.window == name.window && has(on[d], k) {
				finds(t, "what survives", b, ask, k)
				return
			}
		}
	}
	findsNone(t, "what survives", b, ask, name.epoch, name.window)
}

// P19.1, T2: as a backup is used: the one ahead is of another window; a crash in the midst of the next one's Put leaves
// each of the two names found whole, or not found; with a disk lost as well.
func TestCrashThenLoss(t *testing.T) {
	elder, newer := kept{12, 3, dataOf(1, 6)}, kept{12, 4, dataOf(2, 6)}
	for limit := range 7 * 3 {
		for lost := range 3 {
			for keep := range limit + 1 {
				b := newBench(t, 3)
				put(t, b, everyone(3), elder)
				b.Limit(limit)
				refused(t, "cut", b, everyone(3), newer, api.ErrDown)
				b.Crash(everyone(keep)...)
				is(t, "Fail", b.Fail(lost), api.OK)
				var hasNewer, hasElder bool
				for d := range 3 {
					hasNewer = hasNewer || d != lost && keep >= 7*(d+1)
					hasElder = hasElder || d != lost && keep <= 7*d
				}
				findsIf(t, "newer", hasNewer, b, everyone(3), newer)
				findsIf(t, "elder", hasElder, b, everyone(3), elder)
			}
		}
	}
}

// P19.1: a limit that ends ahead of a Put's first write, and at the last: what stood settled ahead of it stays.
func TestCutWithOthersPending(t *testing.T) {
	k := kept{3, 3, dataOf(3, 2)}
	for limit := range 6 {
		b := painted(t, 2)
		is(t, "Write", b.Write(0, 40, full(1)), api.OK)
		is(t, "Write", b.Write(1, api.Backup+2, full(2)), api.OK)
		want := b.Clone()
		b.Limit(limit)
		is(t, "Put", backup.Put(b, everyone(2), 3, 3, k.data...), api.ErrDown)
		for i := range limit {
			is(t, "Write", want.Write(i/3, api.Backup+i%3, sectorsOf(k)[i%3]), api.OK)
		}
		want.Limit(0)
		is(t, "Write", want.Write(1, 0, full(0)), api.ErrDown)
		same(t, "cut", b, want)
	}
}
