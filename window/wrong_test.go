package window_test

import (
	"math"
	"testing"

	"wattle/api"
	"wattle/bench"
)

// noWindow is numbers of windows that no pair has: below 0, and past all; some are one that there is but for digits that
// a smaller number would lose, and of some the product with a window's size would be one.
var noWindow = []int{
	-1, -2, -4, -8, -15, -16, -17, -255, -256, -256 + 1, -1 << 31, -1<<31 + 1, -1 << 32, -1<<32 + 1, -1 << 58, -1 << 60, -1<<60 + 1,
	-1 << 61, -1 << 62, -1<<62 + 1, math.MinInt / 28, math.MinInt / 3, math.MinInt / 2, math.MinInt + 16, math.MinInt + 1, math.MinInt,
	16, 17, 18, 28, 32, 48, 255, 256, 1<<8 + 1, 1 << 16, 1<<16 + 3, 1<<31 - 1, 1 << 31, 1 << 32, 1<<32 + 1, 1 << 58, 1<<58 + 1,
	1 << 60, 1<<60 + 2, 1 << 61, 1<<61 + 1, 1 << 62, 1<<62 + 1, 1<<62 + 3, math.MaxInt/28 + 1, math.MaxInt/3 + 1, math.MaxInt/2 + 1,
	math.MaxInt - 1, math.MaxInt,
}

// busy is a bench with bytes everywhere, and a few writes pending on each disk.
func busy(t *testing.T, disks int) *bench.Bench {
	t.Helper()
	b := painted(t, disks)
	for d := range disks {
		for i, at := range []int{api.SlotA, api.Backup, api.Data + 5, api.Size - 1, api.Data}[:2+d%4] {
			is(t, "Write by hand", b.Write(d, at, full(byte(d*16+i))), api.OK)
		}
	}
	return b
}

// refuses fails the test unless Read and Write of that window are ErrArg, and nothing changes.
func refuses(t *testing.T, b *bench.Bench, live []bool, p pair, k int, data [][]byte) {
	t.Helper()
	if got, e := read(b, live, p, k); e != api.ErrArg || len(got) != 0 {
		t.Fatalf("Read(%v, %v, %d): %x, %d", live, p, k, got, e)
	}
	refusesWrite(t, b, live, p, k, data)
}

// refusesWrite fails the test unless Write of that window is ErrArg, and nothing is written.
func refusesWrite(t *testing.T, b *bench.Bench, live []bool, p pair, k int, data [][]byte) {
	t.Helper()
	writes, pending := b.Writes(), b.Pending()
	if e := write(b, live, p, k, data); e != api.ErrArg || b.Writes() != writes || b.Pending() != pending {
		t.Fatalf("Write(%v, %v, %d, %d sectors): %d, %d written, pending %d, not %d", live, p, k, len(data), e, b.Writes()-writes, b.Pending(), pending)
	}
}

// P20.1, wrong inputs, named one by one: pairs of geometries that may be, and can't.
func TestRefusedNamed(t *testing.T) {
	b, was := busy(t, 8), busy(t, 8)
	for _, p := range []pair{
		{at(5, 3, 1), at(5, 3, 1)}, // alike
		{at(6, 8, 4), at(6, 8, 4)},
		{at(5, 4, 1), at(5, 3, 1)}, // the other way round
		{at(6, 5, 2), at(5, 3, 1)},
		{at(5, 8, 1), at(5, 3, 4)}, // fewer disks
		{at(6, 5, 2), at(6, 4, 2)},
		{at(6, 4, 1), at(5, 4, 1)}, // a lower level
		{at(6, 4, 1), at(5, 8, 2)},
		{at(5, 4, 1), at(6, 4, 1)}, // a smaller width
		{at(5, 8, 2), at(6, 8, 4)},
		{at(5, 5, 4), at(6, 5, 1)},
	} {
		for k := range 16 {
			refuses(t, b, everyone(8), p, k, several(k, p.size()))
			refuses(t, b, nil, p, k, several(k, p.size()))
		}
	}
	same(t, "refused", b, was)
}

// P20.1, wrong inputs: each pair of geometries that may be, and can't, of each window that there would be.
func TestRefusedAll(t *testing.T) {
	b, was := busy(t, 8), busy(t, 8)
	l := pairs(false)
	if len(l) != 33*33-len(pairs(true)) || len(l) != 663 {
		t.Errorf("%d pairs", len(l))
	}
	for _, p := range l {
		for k := range p.windows() {
			refuses(t, b, everyone(8), p, k, several(k, p.size()))
		}
		for _, size := range []int{0, 1, width(p.a), width(p.to), p.rows() * width(p.a)} {
			refuses(t, b, everyone(8), p, 0, several(size, size))
		}
	}
	same(t, "refused", b, was)
}

// P20.1, R1, wrong inputs: geometries that may not be, as the old one, as the new one, and as both.
func TestRefusedGeometries(t *testing.T) {
	b, was := busy(t, 8), busy(t, 8)
	wrong := bad()
	for i, no := range wrong {
		other := wrong[(i+1)%len(wrong)]
		for j, g := range good() {
			for _, size := range []int{0, 1, 2, 3, 6, 24, width(g), 4 * width(g)} {
				refuses(t, b, everyone(8), pair{no, g}, j%4, several(size, size))
				refuses(t, b, everyone(8), pair{g, no}, j%4, several(size, size))
			}
		}
		for _, size := range []int{0, 1, 6} {
			refuses(t, b, everyone(8), pair{no, no}, 0, several(size, size))
			refuses(t, b, everyone(8), pair{no, other}, 0, several(size, size))
		}
	}
	same(t, "refused", b, was)
}

// P20.1, R6, R8: windows that there are not, of each pair: below 0, and from their number on, up to the ends of the whole
// numbers.
func TestNoSuchWindow(t *testing.T) {
	b, was := busy(t, 8), busy(t, 8)
	for _, p := range pairs(true) {
		data := several(1, p.size())
		for _, k := range noWindow {
			refuses(t, b, everyone(8), p, k, data)
			refuses(t, b, everyone(8), p, k, nil)
		}
		for k := p.windows(); k < 40; k++ {
			refuses(t, b, everyone(8), p, k, data)
			refuses(t, b, everyone(8), p, -k, data)
			refuses(t, b, nil, p, k, nil)
		}
	}
	same(t, "refused", b, was)
}

// P20.1: fewer and more sectors than the window has, and none: nothing is written; just as many are taken.
func TestHowMany(t *testing.T) {
	b, was := busy(t, 8), busy(t, 8)
	for _, p := range pairs(true) {
		for k := range p.windows() {
			for _, n := range []int{0, 1, width(p.to) - 1, width(p.to), p.rows() * width(p.a), p.size() - 1, p.size() + 1, p.size() + width(p.to), 2 * p.size(), 256 + p.size()} {
				if n != p.size() {
					refusesWrite(t, b, everyone(8), p, k, several(n, n))
				}
			}
		}
	}
	same(t, "refused", b, was)
	for _, p := range few() {
		for n := range 2*p.size() + 40 {
			if n != p.size() {
				refusesWrite(t, b, everyone(8), p, p.windows()-1, several(n, n))
			}
		}
		is(t, "Write", write(b.Clone(), everyone(8), p, p.windows()-1, several(0, p.size())), api.OK)
	}
	same(t, "refused", b, was)
}

// P20.1: a sector that is shorter or longer than a sector is, or nil, at each place: nothing of the window is written.
func TestNoSector(t *testing.T) {
	b, was := busy(t, 8), busy(t, 8)
	for _, p := range pairs(true) {
		for i := range p.size() {
			for _, x := range [][]byte{nil, {}, make([]byte, 1), make([]byte, api.Sector-1), make([]byte, api.Sector+1), make([]byte, 2*api.Sector)} {
				data := several(i, p.size())
				data[i] = x
				refusesWrite(t, b, everyone(8), p, i%p.windows(), data)
			}
		}
	}
	for _, p := range few() {
		refusesWrite(t, b, everyone(8), p, 0, make([][]byte, p.size()))
		first, last := several(1, p.size()), several(1, p.size())
		first[0], first[1] = first[0][:31], append(first[1], 0) // as many bytes in all as there are to be
		last[p.size()-1] = append(last[p.size()-1], 0)
		refusesWrite(t, b, everyone(8), p, 0, first)
		refusesWrite(t, b, everyone(8), p, p.windows()-1, last)
	}
	same(t, "refused", b, was)
}

// P20.1, R2: which error comes: what is wrong with the pair, the window, the sectors, ahead of all that may be wrong with
// the bench; then what the first sector that can't be read says.
func TestWhichError(t *testing.T) {
	p := pair{at(5, 4, 1), at(6, 5, 2)}
	b := laid(t, p, 5)
	is(t, "Fail", b.Fail(1), api.OK)
	bad, six := several(1, 6), several(1, 6)
	bad[5] = bad[5][:31]
	for range 2 {
		for _, live := range [][]bool{everyone(5), nil, but(5, 2), but(5, 0, 2, 3)} {
			refuses(t, b, live, pair{p.a, p.a}, 0, six)
			refuses(t, b, live, pair{p.to, p.a}, 0, six)
			refuses(t, b, live, p, 8, six)
			refuses(t, b, live, p, -1, bad)
			refusesWrite(t, b, live, p, 0, bad)
			refusesWrite(t, b, live, p, 0, six[:5])
		}
		cut(t, b)
	}
	// Without power a disk that is there can't be read, which is met ahead of how many are lost.
	readsNone(t, b, everyone(5), p, 0, api.ErrDown)
	readsNone(t, b, but(5, 2), p, 0, api.ErrDown)
	writesNone(t, b, everyone(5), p, 0, six, api.ErrDown)
	readsNone(t, b, nil, p, 0, api.ErrLost)
	b.Crash()
	reads(t, b, everyone(5), p, 0, p.contents(0))
	readsNone(t, b, but(5, 2), p, 0, api.ErrLost)
}

// P20.1, R2: calls that were refused change nothing for the next one, also with writes left that a limit allows.
func TestBehindRefusal(t *testing.T) {
	for _, p := range few() {
		b := laid(t, p, p.to.Disks)
		live := everyone(p.to.Disks)
		for k := range p.windows() {
			b.Limit(p.rows() * p.to.Disks)
			refuses(t, b, live, p, k+p.windows(), p.contents(k))
			refuses(t, b, live, pair{p.to, p.to}, k, p.contents(k))
			refusesWrite(t, b, live, p, k, p.contents(k)[1:])
			moves(t, b, live, p, k)
		}
		hasEnd(t, b, p, 0)
		b.Limit(0)
		refuses(t, b, live, p, -1, p.contents(0))
		refusesWrite(t, b, live, p, 0, nil)
		if b.Down() {
			t.Error(p, "down")
		}
	}
}
