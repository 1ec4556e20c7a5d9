package backup_test

import (
	"bytes"
	"slices"
	"testing"

	"wattle/api"
	"wattle/backup"
)

// P19.1: the chapter's example, of each number of disks, whatever epoch and window are asked for.
func TestExample(t *testing.T) {
	for n := 1; n <= api.MaxDisks; n++ {
		b := newBench(t, n)
		for _, epoch := range []int{0, 1, 255, 256, 65535} {
			for window := range api.Rows + 1 {
				findsNone(t, "new", b, everyone(n), epoch, window)
			}
		}
	}
}

// P19.1: sectors by hand, byte by byte: from sector 6 on, on the live disks alone; Get reads them.
func TestByHand(t *testing.T) {
	const behind = "\x00\x00\x00\x00\x00\x00\x00\x00\x00\x00\x00\x00\x00\x00\x00\x00\x00\x00\x00\x00"
	many := make([][]byte, api.MaxWindow)
	for i := range many {
		many[i] = full(byte(i))
	}
	l := []kept{{0, 0, nil}, {0x0102, 3, [][]byte{full('A'), full('B')}}, {65535, 16, many}}
	heads := []string{
		"WBAK\x00\x00\x00\x00" + behind + "\x3C\x48\x14\xC2",
		"WBAK\x01\x02\x03\x02" + behind + "\xFB\xAB\xFD\x1A",
		"WBAK\xFF\xFF\x10\x1C" + behind + "\x24\x6F\x96\xCD",
	}
	b := newBench(t, 3)
	for d, k := range l {
		put(t, b, choice(1<<d, 3), k)
	}
	for d, k := range l {
		for at := range api.Size {
			switch {
			case at == 6:
				stands(t, b, d, at, []byte(heads[d]))
			case at > 6 && at < 7+len(k.data):
				stands(t, b, d, at, k.data[at-7])
			default:
				stands(t, b, d, at, full(0))
			}
		}
		finds(t, "of all", b, everyone(3), k)
		finds(t, "of its disk", b, choice(1<<d, 3), k)
		findsNone(t, "of the others", b, choice(7&^(1<<d), 3), k.epoch, k.window)
	}
	if b.Writes() != 1+3+29 {
		t.Error("writes", b.Writes())
	}
}

// putOn fails the test unless a backup put on these disks of a bench full of other bytes stands there, byte by byte, and
// nothing else is touched; it answers to Get of some disks if one of those has it.
func putOn(t *testing.T, live []bool, k kept, asked [][]bool) {
	t.Helper()
	b := painted(t, len(live))
	want := b.Clone()
	put(t, b, live, k)
	for d := range live {
		if live[d] {
			lay(t, want, d, sectorsOf(k))
		}
	}
	sameSectors(t, "put", b, want)
	if n := (1 + len(k.data)) * count(live); b.Writes() != want.Writes()+n {
		t.Errorf("%v, %d sectors: %d writes; want %d", live, len(k.data), b.Writes(), n)
	}
	for _, ask := range asked {
		has := false
		for d := range ask {
			has = has || ask[d] && d < len(live) && live[d]
		}
		findsIf(t, "put", has, b, ask, k)
	}
	if b.Pending() != 0 {
		t.Error("Get leaves something pending")
	}
}

// P19.1: on none, one, some and all disks of each number of disks.
func TestOnEachChoice(t *testing.T) {
	for n := 1; n <= api.MaxDisks; n++ {
		for x := range 1 << n {
			asked := [][]bool{nil, everyone(n), choice(x, n), choice(^x, n), choice(1, n), choice(1<<(n-1), n), choice(x>>1, n)}
			putOn(t, choice(x, n), kept{300 + x, n, dataOf(x, x%4)}, asked)
		}
	}
}

// P19.1: each count of data sectors, of other bytes and of zeros, on benches of 3 to 8 disks.
func TestEachCount(t *testing.T) {
	for n := 3; n <= api.MaxDisks; n++ {
		for size := range api.MaxWindow + 1 {
			for _, data := range [][][]byte{dataOf(size, size), zeros(size)} {
				for _, x := range []int{0, 1, 1 << (n - 1), 0b10110 & (1<<n - 1), 1<<n - 1} {
					k := kept{size*2000 + n, size % 17, data}
					putOn(t, choice(x, n), k, [][]bool{everyone(n), choice(x, n), choice(1<<(n-1), n)})
				}
			}
		}
	}
}

// P19.1: all windows, with epochs at their ends and in between: each byte stands where it is to, and Get finds it under
// no other name.
func TestNames(t *testing.T) {
	epochs := []int{0, 1, 2, 127, 128, 255, 256, 257, 511, 4660, 13330, 32767, 32768, 65279, 65280, 65534, 65535}
	for i, epoch := range epochs {
		for window := range api.Rows + 1 {
			k := kept{epoch, window, dataOf(epoch, (i+window)%5)}
			b := newBench(t, 2)
			put(t, b, everyone(2), k)
			for d := range 2 {
				for j, x := range sectorsOf(k) {
					stands(t, b, d, api.Backup+j, x)
				}
			}
			for _, other := range epochs {
				for w := range api.Rows + 1 {
					findsIf(t, "under each name", other == epoch && w == window, b, everyone(2), kept{other, w, k.data})
				}
			}
		}
	}
}

// P19.1: each epoch that there may be, one over the other.
func TestEachEpoch(t *testing.T) {
	b := newBench(t, 1)
	for epoch := range 1 << 16 {
		k := kept{epoch, epoch % 17, nil}
		put(t, b, everyone(1), k)
		finds(t, "put", b, everyone(1), k)
		findsNone(t, "the one ahead", b, everyone(1), epoch-1, k.window)
		findsNone(t, "one digit other", b, everyone(1), epoch^1<<(epoch%16), k.window)
		if x, e := b.Read(0, api.Backup); e != api.OK || x[4] != byte(epoch>>8) || x[5] != byte(epoch) {
			t.Fatalf("%d: %x, %d", epoch, x, e)
		}
	}
}

// P19.1: what has the same bytes is a backup all the same: data that look like a first sector, or are one and the same.
func TestDataOfAnyKind(t *testing.T) {
	head := sectorsOf(kept{7, 7, nil})[0]
	one := mixed(9)
	for _, data := range [][][]byte{{head}, {head, head}, {one, one, one}, {full(255), full(0), full(255)}, {full(0), head, full(0)}} {
		b := newBench(t, 3)
		put(t, b, everyone(3), kept{8, 7, data})
		finds(t, "put", b, everyone(3), kept{8, 7, data})
		findsNone(t, "what is in it", b, everyone(3), 7, 7)
	}
}

// P19.1: one put over another, of each of some counts, of the same name and of others, on whichever disks: Get finds of
// each name what the first of the asked disks has; the sectors behind a shorter one are as they were.
func TestPutOver(t *testing.T) {
	counts := []int{0, 1, 4, api.MaxWindow}
	for i, n := range counts {
		for j, m := range counts {
			elder := kept{500, 3, dataOf(i, n)}
			for _, newer := range []kept{{500, 3, dataOf(10+j, m)}, {500, 4, dataOf(i, m)}, {501, 3, dataOf(i, m)}, {500 - 256, 3, dataOf(i, m)}} {
				for x := range 1 << 3 {
					over(t, elder, newer, choice(x, 3))
				}
			}
		}
	}
}

// over fails the test unless all is as it ought to be where newer is put on these of the disks that all have elder.
func over(t *testing.T, elder, newer kept, live []bool) {
	t.Helper()
	b := painted(t, len(live))
	put(t, b, everyone(len(live)), elder)
	want := b.Clone()
	put(t, b, live, newer)
	for d := range live {
		if live[d] {
			lay(t, want, d, sectorsOf(newer))
		}
	}
	sameSectors(t, "over", b, want)
	alike := elder.epoch == newer.epoch && elder.window == newer.window
	for x := range 1 << len(live) {
		ask := choice(x, len(live))
		d := slices.Index(ask, true)
		if alike && d >= 0 {
			its := elder
			if live[d] {
				its = newer
			}
			finds(t, "the first one's", b, ask, its)
			continue
		}
		var hasElder, hasNewer bool
		for d := range ask {
			hasElder = hasElder || ask[d] && !live[d]
			hasNewer = hasNewer || ask[d] && live[d]
		}
		findsIf(t, "elder", hasElder, b, ask, elder)
		findsIf(t, "newer", hasNewer, b, ask, newer)
	}
}

// P19.1: Put asks nothing of what stands there: the same again is written all the same, and counts, and takes the power.
func TestPutAgain(t *testing.T) {
	b, k := newBench(t, 3), kept{5, 5, dataOf(1, 2)}
	for i := range 3 {
		put(t, b, everyone(3), k)
		finds(t, "again", b, everyone(3), k)
		if b.Writes() != 9*(i+1) {
			t.Error("writes", b.Writes())
		}
	}
	b.Limit(0)
	refused(t, "again", b, everyone(3), k, api.ErrDown)
}

// P19.1: of each disk any of some backups, or none: Get, of each choice of live, of each name, tells that of the first
// live disk that has one of it, whatever stands on the disks that are not live; R8.
func TestFirstOfSeveral(t *testing.T) {
	l := []kept{{9, 2, dataOf(1, 2)}, {9, 2, dataOf(2, 3)}, {9, 3, dataOf(1, 2)}, {10, 2, nil}}
	for x := range 5 * 5 * 5 * 5 {
		b := newBench(t, 4)
		var on [4]int
		for d, rest := 0, x; d < len(on); d, rest = d+1, rest/5 {
			on[d] = rest % 5
			if on[d] < len(l) {
				lay(t, b, d, sectorsOf(l[on[d]]))
			}
		}
		for y := range 1 << 4 {
			live := choice(y, 4)
			for _, name := range []kept{l[0], l[2], l[3]} {
				has := false
				for d := range on {
					if live[d] && on[d] < len(l) && l[on[d]].epoch == name.epoch && l[on[d]].window == name.window {
						finds(t, "of the first", b, live, l[on[d]])
						has = true
						break
					}
				}
				if !has {
					findsNone(t, "of none", b, live, name.epoch, name.window)
				}
			}
			findsNone(t, "of none", b, live, 10, 3)
		}
	}
}

// P19.1: a live of fewer entries than there are disks, of none, and of more: the rest is not live, and what is past the
// disks is none of them. No disk live: nothing is done, with power or without, and there is none.
func TestLengthsOfLive(t *testing.T) {
	k := kept{77, 1, dataOf(7, 3)}
	for size := range 11 {
		for x := range 1 << min(size, 4) {
			live := choice(x|0x7F0, size)
			padded := [3]bool{}
			copy(padded[:], live)
			b := newBench(t, 3)
			c := b.Clone()
			put(t, b, live, k)
			put(t, c, padded[:], k)
			same(t, "Put", b, c)
			if b.Writes() != 4*count(padded[:]) {
				t.Error(live, "writes", b.Writes())
			}
			put(t, b, everyone(3), k)
			findsIf(t, "asked so", count(padded[:]) > 0, b, live, k)
		}
	}
	b := newBench(t, 3)
	put(t, b, everyone(3), k)
	for range 2 {
		was := b.Clone()
		for _, live := range [][]bool{nil, {}, {false}, {false, false, false}, {false, false, false, true, true}} {
			is(t, "Put", backup.Put(b, live, 1, 1, full(1)), api.OK)
			findsNone(t, "none is live", b, live, k.epoch, k.window)
			same(t, "none is live", b, was)
		}
		b.Limit(0)
		is(t, "Write", b.Write(0, 40, full(1)), api.ErrDown)
	}
}

// P19.1: a shorter backup does not ask for the sectors behind it, whatever stands there, and a new bench's zeros, and the
// sectors ahead of it and behind all that there may be, are asked by none.
func TestOtherSectors(t *testing.T) {
	for _, size := range []int{0, 1, 3, api.MaxWindow} {
		k := kept{3, 4, dataOf(size, size)}
		b := newBench(t, 1)
		put(t, b, everyone(1), k)
		for at := range api.Size {
			if at < api.Backup || at > api.Backup+size {
				set(t, b, 0, at, mixed(at))
				finds(t, "beside it", b, everyone(1), k)
			}
		}
	}
}

// P19.1: each digit of each byte turned, of the first sector and of the data, on one disk, and on all: that one has none.
func TestSpoilt(t *testing.T) {
	for _, size := range []int{0, 1, 3, api.MaxWindow} {
		k := kept{0x1234, 9, dataOf(size, size)}
		for i, x := range sectorsOf(k) {
			for j := range 8 * api.Sector {
				turned := slices.Clone(x)
				turned[j/8] ^= 1 << (j % 8)
				b := newBench(t, 2)
				put(t, b, everyone(2), k)
				set(t, b, 0, api.Backup+i, turned)
				finds(t, "one is spoilt", b, everyone(2), k)
				findsNone(t, "that one", b, []bool{true}, k.epoch, k.window)
				set(t, b, 1, api.Backup+i, turned)
				findsNone(t, "all are spoilt", b, everyone(2), k.epoch, k.window)
				set(t, b, 0, api.Backup+i, x)
				finds(t, "the other one is spoilt", b, everyone(2), k)
			}
		}
	}
}

// P19.1: two data sectors that stand in each other's places: none.
func TestExchanged(t *testing.T) {
	k := kept{1, 1, dataOf(4, 5)}
	for i := 1; i < 5; i++ {
		for j := range i {
			b, l := newBench(t, 1), sectorsOf(k)
			l[1+i], l[1+j] = l[1+j], l[1+i]
			lay(t, b, 0, l)
			findsNone(t, "exchanged", b, everyone(1), 1, 1)
			l[1+i], l[1+j] = l[1+j], l[1+i]
			lay(t, b, 0, l)
			finds(t, "back again", b, everyone(1), k)
		}
	}
}

// P19.1: Put settles what is pending on each live disk; what is pending on others stays so.
func TestPending(t *testing.T) {
	k := kept{21, 12, dataOf(3, 4)}
	for x := range 1 << 4 {
		live := choice(x, 4)
		b := painted(t, 4)
		for d := range 4 {
			for i, at := range []int{0, 40 + d, api.Backup, api.Backup + 1 + d, api.Backup + 7, 50} {
				is(t, "Write", b.Write(d, at, mixed(d*8+i)), api.OK)
			}
		}
		want := b.Clone()
		is(t, "Put", backup.Put(b, live, k.epoch, k.window, k.data...), api.OK)
		for d := range live {
			for i, y := range sectorsOf(k) {
				if live[d] {
					is(t, "Write", want.Write(d, api.Backup+i, y), api.OK)
				}
			}
			if live[d] {
				is(t, "Flush", want.Flush(d), api.OK)
			}
		}
		same(t, "put", b, want)
		b.Crash()
		findsIf(t, "crashed", x != 0, b, live, k)
	}
}

// P19.1: Get reads what was written last, pending or not, and changes nothing.
func TestGetReadsOnly(t *testing.T) {
	elder, newer := kept{6, 6, dataOf(1, 3)}, kept{6, 7, dataOf(2, 2)}
	b := painted(t, 3)
	put(t, b, everyone(3), elder)
	for i, x := range sectorsOf(newer) {
		is(t, "Write", b.Write(1, api.Backup+i, x), api.OK)
	}
	is(t, "Write", b.Write(2, api.Backup, full(0)), api.OK)
	is(t, "Fail", b.Fail(0), api.OK)
	was := b.Clone()
	for range 3 {
		finds(t, "pending", b, everyone(3), newer)
		findsNone(t, "pending", b, everyone(3), 6, 6)
	}
	same(t, "asked", b, was)
	b.Crash()
	finds(t, "crashed", b, []bool{true, false, true}, elder)
	findsNone(t, "crashed", b, everyone(3), 6, 7)
	b.Limit(0)
	for range 3 {
		finds(t, "no write is left", b, everyone(3), elder)
	}
	if b.Down() {
		t.Error("Get takes the power")
	}
}

// P19.1: disks that have failed, whichever they are, live or not, are passed over by Put and by Get.
func TestFailed(t *testing.T) {
	elder, newer := kept{8, 1, dataOf(8, 2)}, kept{9, 1, dataOf(9, 3)}
	for f := range 1 << 4 {
		for x := range 1 << 4 {
			failed, live := choice(f, 4), choice(x, 4)
			b := painted(t, 4)
			put(t, b, everyone(4), elder)
			for d := range failed {
				if failed[d] {
					is(t, "Fail", b.Fail(d), api.OK)
				}
			}
			want := b.Clone()
			for d := range live {
				if live[d] && !failed[d] {
					lay(t, want, d, sectorsOf(newer))
				}
			}
			put(t, b, live, newer)
			sameSectors(t, "put", b, want)
			if n := 4 * count(choice(x&^f, 4)); b.Writes() != want.Writes()+n {
				t.Error(failed, live, "writes", b.Writes())
			}
			for y := range 1 << 4 {
				findsIf(t, "newer", y&x&^f != 0, b, choice(y, 4), newer)
				findsIf(t, "elder", y&^x&^f != 0, b, choice(y, 4), elder)
			}
		}
	}
}

// P19.1: a new disk in the place of a failed one has none, till one is put there.
func TestReplaced(t *testing.T) {
	b, k := newBench(t, 3), kept{9, 9, dataOf(1, 1)}
	put(t, b, everyone(3), k)
	is(t, "Fail", b.Fail(1), api.OK)
	findsNone(t, "the failed one", b, []bool{false, true}, 9, 9)
	is(t, "Replace", b.Replace(1), api.OK)
	findsNone(t, "the new one", b, []bool{false, true}, 9, 9)
	finds(t, "the others", b, everyone(3), k)
	put(t, b, []bool{false, true}, k)
	finds(t, "the new one", b, []bool{false, true}, k)
}

// P19.1: Puts and Gets through all windows of an epoch, and then of the next one, each over the one ahead.
func TestWindowByWindow(t *testing.T) {
	b := newBench(t, 5)
	var ahead kept
	for epoch := 65533; epoch <= 65535; epoch++ {
		for window := range api.Rows + 1 {
			k := kept{epoch, window, dataOf(epoch*32+window, (epoch+window*7)%(api.MaxWindow+1))}
			findsNone(t, "ahead of it", b, everyone(5), epoch, window)
			put(t, b, everyone(5), k)
			finds(t, "put", b, everyone(5), k)
			if ahead.epoch > 0 {
				findsNone(t, "the one ahead", b, everyone(5), ahead.epoch, ahead.window)
			}
			ahead = k
			if x, e := b.Read(4, api.Backup); e != api.OK || !bytes.Equal(x, sectorsOf(k)[0]) {
				t.Errorf("%x, %d", x, e)
			}
		}
	}
}
