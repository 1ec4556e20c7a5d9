package backup_test

import (
	"math"
	"slices"
	"testing"

	"wattle/api"
	"wattle/backup"
)

// wrong is backups that may not be, each for one reason.
func wrong() []kept {
	var l []kept
	for _, epoch := range []int{-1, -2, -65536, -65535, 65536, 65537, 65536 + 7, 1 << 24, 1<<32 + 7, math.MaxInt, math.MinInt, math.MinInt + 7} {
		l = append(l, kept{epoch, 2, nil}, kept{epoch, 0, dataOf(1, 3)})
	}
	for _, window := range []int{-1, -254, -256, api.Rows + 1, 18, 255, 256, 256 + 2, 1<<32 + 2, math.MaxInt, math.MinInt, math.MinInt + 2} {
		l = append(l, kept{7, window, nil}, kept{0, window, dataOf(1, 3)})
	}
	for _, size := range []int{api.MaxWindow + 1, api.MaxWindow + 2, 45, 46, 100, 255, 256, 257, 1000} {
		l = append(l, kept{7, 2, dataOf(2, size)})
	}
	for _, x := range [][]byte{nil, {}, make([]byte, 1), make([]byte, api.Sector-1), make([]byte, api.Sector+1), make([]byte, 2*api.Sector), make([]byte, 1000)} {
		l = append(l, kept{7, 2, [][]byte{x}})
		for _, size := range []int{2, 3, api.MaxWindow} {
			for at := range size {
				data := dataOf(3, size)
				data[at] = x
				l = append(l, kept{7, 2, data})
			}
		}
	}
	return l
}

// P19.1, R2, R8: of a backup that may not be nothing is written; it is told ahead of all that may be wrong with the bench,
// and also where nothing would be asked of it.
func TestMayNotBe(t *testing.T) {
	for _, k := range wrong() {
		b := painted(t, 3)
		elder := kept{7, 2, dataOf(9, 4)}
		put(t, b, everyone(3), elder)
		is(t, "Write", b.Write(1, 45, full(2)), api.OK)
		was := b.Clone()
		for _, live := range [][]bool{everyone(3), {true}, nil, {false, false, false}, everyone(9)} {
			refused(t, "may not be", b, live, k, api.ErrArg)
		}
		same(t, "refused", b, was)
		finds(t, "refused", b, everyone(3), elder)
		is(t, "Fail", b.Fail(0), api.OK)
		b.Limit(0)
		refused(t, "no write is left", b, everyone(3), k, api.ErrArg)
		if b.Down() {
			t.Error("down", k.epoch, k.window, len(k.data))
		}
		is(t, "Write", b.Write(1, 46, full(2)), api.ErrDown)
		refused(t, "without power", b, everyone(3), k, api.ErrArg)
	}
}

// P19.1: several that are wrong with a backup: refused all the same.
func TestWrongInSeveralWays(t *testing.T) {
	b := newBench(t, 2)
	for _, k := range []kept{{-1, -1, nil}, {65536, 17, dataOf(1, 29)}, {-1, 0, [][]byte{nil}}, {0, 17, [][]byte{full(0)[:31]}}, {0, 0, make([][]byte, 29)}} {
		refused(t, "in several ways", b, everyone(2), k, api.ErrArg)
	}
	same(t, "refused", b, newBench(t, 2))
}

// R8: Get of an epoch or a window that may not be finds none, also where one that may be would be found but for digits
// that a smaller number would lose, and where the disk says that very number.
func TestNoSuchName(t *testing.T) {
	b := newBench(t, 2)
	for _, k := range []kept{{0, 0, nil}, {7, 2, dataOf(1, 2)}, {65535, 16, dataOf(2, 3)}, {255, 1, [][]byte{full(2), full(2)}}} {
		put(t, b, everyone(2), k)
		for _, off := range []int{1 << 16, 1 << 17, 1 << 31, 1 << 32, 1 << 48, math.MinInt} {
			findsNone(t, "no such epoch", b, everyone(2), k.epoch+off, k.window)
			findsNone(t, "no such epoch", b, everyone(2), k.epoch-off, k.window)
		}
		for _, off := range []int{1 << 8, 1 << 9, 1 << 16, 1 << 32, 1 << 48, math.MinInt} {
			findsNone(t, "no such window", b, everyone(2), k.epoch, k.window+off)
			findsNone(t, "no such window", b, everyone(2), k.epoch, k.window-off)
		}
		for _, far := range []int{-1, -65536, math.MaxInt, math.MinInt} {
			findsNone(t, "no such epoch", b, everyone(2), far, k.window)
			findsNone(t, "no such window", b, everyone(2), k.epoch, far)
		}
		finds(t, "as it was", b, everyone(2), k)
	}
	for window := api.Rows + 1; window < 256; window++ {
		lay(t, b, 1, sectorsOf(kept{65535, window, dataOf(3, 3)}))
		findsNone(t, "no such window", b, []bool{false, true}, 65535, window)
		findsNone(t, "no such window", b, []bool{false, true}, -1, window)
		findsNone(t, "no such window", b, []bool{false, true}, 65535, window-256)
	}
}

// sealed is the sectors of a backup whose first sector is changed ahead of being sealed.
func sealed(k kept, change func(first []byte)) [][]byte {
	parts := sectorsOf(k)
	change(parts[0])
	return seal(parts)
}

// P19.1: sectors that are no backup of that name, though most are sealed: none is found there, nor do they hinder another
// disk's.
func TestNoSuchOne(t *testing.T) {
	k := kept{0x1234, 9, dataOf(5, 3)}
	good, turned := sectorsOf(k), sectorsOf(k)
	slices.Reverse(turned[0][28:])
	alone := append(seal([][]byte{slices.Clone(good[0])}), good[1:]...)
	one := sectorsOf(kept{0x1234, 9, k.data[:2]})
	for i, parts := range [][][]byte{
		{full(0), full(0), full(0), full(0)},
		{full(255), full(255), full(255), full(255)},
		seal([][]byte{full(0)}),
		seal([][]byte{full(0), full(0), full(0), full(0)}),
		turned, alone, good[1:],
		{good[0], good[1], good[2], full(0)},
		{one[0], good[2], good[3]},
		sealed(k, func(f []byte) { f[0] = 'w' }),
		sealed(k, func(f []byte) { f[3] = 'C' }),
		sealed(k, func(f []byte) { copy(f, "WREC") }),
		sealed(k, func(f []byte) { copy(f, "KABW") }),
		sealed(k, func(f []byte) { copy(f, "\x00\x00\x00\x00") }),
		sealed(k, func(f []byte) { f[4], f[5] = f[5], f[4] }),
		sealed(k, func(f []byte) { f[4]++ }),
		sealed(k, func(f []byte) { f[5]-- }),
		sealed(k, func(f []byte) { f[6]++ }),
		sealed(k, func(f []byte) { f[6], f[7] = f[7], f[6] }),
		sealed(k, func(f []byte) { f[7] = 2 }),
		sealed(k, func(f []byte) { f[7] = 4 }),
		sealed(k, func(f []byte) { f[7] = 0 }),
	} {
		b := newBench(t, 3)
		lay(t, b, 1, parts)
		findsNone(t, "alone", b, everyone(3), k.epoch, k.window)
		other := kept{k.epoch, k.window, dataOf(i, 2)}
		put(t, b, []bool{true, false, true}, other)
		finds(t, "beside it", b, []bool{false, true, true}, other)
	}
	b := newBench(t, 3)
	lay(t, b, 1, good)
	finds(t, "the good one", b, everyone(3), k)
}

// P19.1: a byte that is not zero among the zeros: that is none, though it is sealed with it.
func TestZeros(t *testing.T) {
	k := kept{0x1234, 9, dataOf(5, 2)}
	for at := 8; at < 28; at++ {
		for _, c := range []byte{1, 128, 255} {
			b := newBench(t, 2)
			put(t, b, []bool{false, true}, k)
			lay(t, b, 0, sealed(k, func(f []byte) { f[at] = c }))
			findsNone(t, "not zero", b, []bool{true}, k.epoch, k.window)
			finds(t, "beside it", b, everyone(2), k)
		}
	}
}

// P19.1, R1: a first sector that names more data than there can be, sealed with as much as stands behind it, up to the
// disk's end, and with less: none.
func TestTooMany(t *testing.T) {
	for size := range 256 {
		for _, with := range []int{0, api.MaxWindow, min(size, api.Size-api.Backup-1)} {
			b := newBench(t, 2)
			k := kept{9, 9, dataOf(size, with)}
			lay(t, b, 0, sealed(k, func(f []byte) { f[7] = byte(size) }))
			has := size == with && size <= api.MaxWindow
			findsIf(t, "too many", has, b, everyone(2), k)
			put(t, b, []bool{false, true}, k.less())
			if !has {
				finds(t, "beside it", b, everyone(2), k.less())
			}
		}
	}
}

// less is the backup with no more data than there can be.
func (k kept) less() kept {
	k.data = k.data[:min(len(k.data), api.MaxWindow)]
	return k
}

// P19.1: the sectors of a backup elsewhere on the disk: none.
func TestElsewhere(t *testing.T) {
	k := kept{1, 1, dataOf(1, 2)}
	for from := range api.Size - 2 {
		b := newBench(t, 1)
		for i, x := range sectorsOf(k) {
			set(t, b, 0, from+i, x)
		}
		findsIf(t, "from there on", from == api.Backup, b, everyone(1), k)
	}
}

// P19.1, R2: a Put that may not be leaves the next one as it would have been.
func TestBehindRefusal(t *testing.T) {
	b, c := newBench(t, 2), newBench(t, 2)
	for i, k := range wrong() {
		if e := backup.Put(b, everyone(2), k.epoch, k.window, k.data...); e != api.ErrArg {
			t.Errorf("%d, %d, %d sectors: %d", k.epoch, k.window, len(k.data), e)
		}
		good := kept{i, i % 17, dataOf(i, i%29)}
		put(t, b, everyone(2), good)
		put(t, c, everyone(2), good)
	}
	same(t, "behind refusals", b, c)
}
