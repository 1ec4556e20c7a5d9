package window_test

import (
	"testing"

	"wattle/api"
	"wattle/bench"
)

// P20.1, the chapter's example: of a new bench each window of each pair is zeros, as many as it has sectors.
func TestExample(t *testing.T) {
	for _, p := range pairs(true) {
		b := newBench(t, p.to.Disks)
		for k := range p.windows() {
			reads(t, b, everyone(p.to.Disks), p, k, zeros(p.size()))
		}
		same(t, "read", b, newBench(t, p.to.Disks))
	}
}

// fulls is a sector of each of these bytes.
func fulls(bytes ...byte) [][]byte {
	l := make([][]byte, len(bytes))
	for i, c := range bytes {
		l[i] = full(c)
	}
	return l
}

// hasRows fails the test unless the rows from 0 on have sectors of these bytes, each on disk after disk.
func hasRows(t *testing.T, b *bench.Bench, rows [][]byte) {
	t.Helper()
	for row, line := range rows {
		for d, c := range line {
			stands(t, b, d, api.Data+row, full(c))
		}
	}
}

// P20.1: a disk more, by hand: sector n is of the byte n + 1; three disks, then four, a chunk of one sector.
func TestByHandWider(t *testing.T) {
	p := pair{at(5, 3, 1), at(5, 4, 1)}
	b, live := newBench(t, 4), everyone(4)
	old := [][]byte{{1, 2, 3, 0}, {4, 7, 3, 0}, {3, 5, 6, 0}, {7, 8, 15, 0}, {10, 3, 9, 0}, {7, 11, 12, 0}}
	for row, line := range old {
		for d, c := range line {
			set(t, b, d, api.Data+row, full(c))
		}
	}
	steps := [][][]byte{
		{{1, 2, 3, 0}, old[1], old[2], old[3], old[4], old[5]},
		{{1, 2, 3, 0}, {5, 6, 7, 4}, old[2], old[3], old[4], old[5]},
		{{1, 2, 3, 0}, {5, 6, 7, 4}, {9, 6, 7, 8}, old[3], old[4], old[5]},
		{{1, 2, 3, 0}, {5, 6, 7, 4}, {9, 6, 7, 8}, {13, 10, 11, 12}, old[4], old[5]},
	}
	for k, rows := range steps {
		data := fulls(byte(3*k+1), byte(3*k+2), byte(3*k+3))
		reads(t, b, live, p, k, data)
		is(t, "Write", write(b, live, p, k, data), api.OK)
		hasRows(t, b, rows)
	}
	if b.Writes() != 16 || b.Pending() != 0 {
		t.Error(b.Writes(), b.Pending())
	}
}

// P20.1: from one parity to two, by hand: four disks with chunks of four sectors, then five with chunks of one.
func TestByHandLevel(t *testing.T) {
	p := pair{at(5, 4, 4), at(6, 5, 1)}
	b, live := newBench(t, 5), everyone(5)
	for row, line := range [][]byte{{1, 5, 9}, {2, 6, 10}, {3, 7, 11}, {4, 8, 12}} {
		for d, c := range line {
			set(t, b, d, api.Data+row, full(c))
		}
		set(t, b, 3, api.Data+row, full(line[0]^line[1]^line[2]))
	}
	data := fulls(1, 2, 3, 4, 5, 6, 7, 8, 9, 10, 11, 12)
	reads(t, b, live, p, 0, data)
	reads(t, b, but(5, 2), p, 0, data)
	is(t, "Write", write(b, live, p, 0, data), api.OK)
	hasRows(t, b, [][]byte{{9, 1, 2, 3, 0}, {4, 5, 6, 7, 22}, {8, 9, 6, 51, 7}, {12, 13, 44, 10, 11}, {0, 0, 0, 0, 0}})
	if b.Writes() != 20 || b.Pending() != 0 {
		t.Error(b.Writes(), b.Pending())
	}
}

// P20.1: a window that ends past the old end, and those past it, by hand: the old one has 32 sectors, a window 14.
func TestByHandPastEnd(t *testing.T) {
	p := pair{at(5, 3, 2), at(5, 8, 1)}
	b, live := newBench(t, 8), everyone(8)
	// the old one's last stripe is rows 14 and 15: P on disk 1, chunk 14 on disk 2, chunk 15 on disk 0
	for d, line := range [][]byte{{31, 32}, {2, 62}, {29, 30}} {
		set(t, b, d, api.Data+14, full(line[0]))
		set(t, b, d, api.Data+15, full(line[1]))
	}
	last := fulls(29, 30, 31, 32, 0, 0, 0, 0, 0, 0, 0, 0, 0, 0)
	reads(t, b, live, p, 2, last)
	reads(t, b, but(8, 1), p, 2, last)
	for k := 3; k < 8; k++ {
		reads(t, b, live, p, k, zeros(14))
	}
	is(t, "Write", write(b, live, p, 2, last), api.OK)
	hasRows(t, b, [][]byte{{}, {}, {}, {}, {0, 0, 0, 60, 29, 30, 31, 32}, {0, 0, 0, 0, 0, 0, 0, 0}})
	if b.Writes() != 16 || b.Pending() != 0 {
		t.Error(b.Writes(), b.Pending())
	}
}

// P20.1: of each pair each window, with all rows as the old geometry has them: its sectors as they were written there, and
// zeros past the old end; nothing changes by being read.
func TestReadEach(t *testing.T) {
	part, whole := 0, 0
	for _, p := range pairs(true) {
		start := laid(t, p, p.to.Disks)
		b := start.Clone()
		for k := range p.windows() {
			want := p.contents(k)
			reads(t, b, everyone(p.to.Disks), p, k, want)
			reads(t, b, everyone(p.to.Disks), p, k, want)
			for i, x := range want {
				if (string(x) == string(full(0))) != (i >= p.held(k)) {
					t.Fatal(p, k, i, "the contents tell nothing")
				}
			}
			switch held := p.held(k); {
			case held == 0:
				whole++
			case held < p.size():
				part++
			}
		}
		same(t, "read", b, start)
	}
	if part == 0 || whole == 0 {
		t.Error("not all cases", part, whole)
	}
}

// P20.1: of each pair each window, whatever stood there: its rows become as the new geometry has them, on its disks alone,
// all of it settled; every other sector is as it was.
func TestWriteEach(t *testing.T) {
	start := painted(t, api.MaxDisks)
	for i, p := range pairs(true) {
		for k := range p.windows() {
			b, want := start.Clone(), start.Clone()
			data := several(i*16+k, p.size())
			is(t, "Write", write(b, everyone(8), p, k, data), api.OK)
			for row, line := range chart(p.to) {
				if row < k*p.rows() || row >= (k+1)*p.rows() {
					continue
				}
				for d, x := range sectorsOf(line, func(n int) []byte { return data[n-k*p.size()] }) {
					set(t, want, d, api.Data+row, x)
				}
			}
			sameSectors(t, "Write", b, want)
			if b.Pending() != 0 || b.Writes() != p.rows()*p.to.Disks {
				t.Fatal(p, k, b.Pending(), b.Writes())
			}
		}
	}
}

// P20.1: Write does just what is to be done by hand, with no power to go; over sectors pending and settled.
func TestWriteOverPending(t *testing.T) {
	for i, p := range few() {
		start := painted(t, api.MaxDisks)
		for d := range api.MaxDisks {
			for j, at := range []int{api.Data, api.SlotA, api.Data + 5, api.Size - 1, api.Data}[:2+d%4] {
				is(t, "Write by hand", start.Write(d, at, full(byte(d*16+j))), api.OK)
			}
		}
		for k := range p.windows() {
			b := start.Clone()
			writes(t, b, everyone(api.MaxDisks), p, k, several(i, p.size()))
			if b.Pending() != 0 {
				t.Error(p, k, b.Pending())
			}
		}
	}
}

// P20.1: of each pair all windows, one after the other: each is read as it was written in the old geometry, and behind each
// step the rows ahead are the new one's, the others as they were; in the end each sector stands where the new one has it,
// and those past the old end are zeros.
func TestMoved(t *testing.T) {
	for _, p := range pairs(true) {
		b, want := laid(t, p, p.to.Disks), laid(t, p, p.to.Disks)
		for k := range p.windows() {
			moves(t, b, everyone(p.to.Disks), p, k)
			layWindow(t, want, p, k)
			sameSectors(t, "moved", b, want)
		}
		end := painted(t, p.to.Disks)
		lay(t, end, p, p.to, 0, api.Rows)
		sameSectors(t, "all moved", b, end)
		for row, line := range chart(p.to) {
			for d, n := range line {
				if n >= 0 {
					stands(t, b, d, api.Data+row, p.content(n))
				}
			}
		}
	}
}

// P20.1: the first window, the last one, and the ones about the old end, of a pair of which just one lies in part past it,
// and of one that has none such.
func TestAboutTheEnd(t *testing.T) {
	for _, c := range []struct {
		p         pair
		last      int // the last window that has sectors of the old end
		held, all int // how many of these, and how many in all
	}{
		{pair{at(5, 3, 1), at(5, 8, 1)}, 4, 4, 7},
		{pair{at(5, 3, 1), at(6, 8, 4)}, 1, 8, 24},
		{pair{at(5, 3, 2), at(5, 5, 4)}, 1, 16, 16}, // it ends where a window does
		{pair{at(5, 4, 2), at(6, 5, 4)}, 3, 12, 12}, // as many sectors as before
		{pair{at(6, 4, 1), at(6, 7, 2)}, 3, 2, 10},
	} {
		b, live := laid(t, c.p, c.p.to.Disks), everyone(c.p.to.Disks)
		for k := range c.p.windows() {
			held := c.all
			if k == c.last {
				held = c.held
			} else if k > c.last {
				held = 0
			}
			got, e := read(b, live, c.p, k)
			if e != api.OK || len(got) != c.all {
				t.Fatal(c.p, k, len(got), e)
			}
			for i, x := range got {
				want := full(0)
				if i < held {
					want = mixed(1000+k*c.all+i, api.Sector)
				}
				if string(x) != string(want) {
					t.Errorf("%v, window %d, sector %d: %x, not %x", c.p, k, i, x, want)
				}
			}
		}
	}
}

// P20.1: the same window read twice, and written twice, is as it was read and written once; with other sectors the second
// time, those count.
func TestTwice(t *testing.T) {
	for i, p := range few() {
		b, live := laid(t, p, p.to.Disks), everyone(p.to.Disks)
		for k := range p.windows() {
			reads(t, b, live, p, k, p.contents(k))
			moves(t, b, live, p, k)
			once := b.Clone()
			is(t, "Write", write(b, live, p, k, p.contents(k)), api.OK)
			sameSectors(t, "written twice", b, once)
			is(t, "Write", write(b, live, p, k, several(i, p.size())), api.OK)
			is(t, "Write", write(b, live, p, k, p.contents(k)), api.OK)
			sameSectors(t, "written back", b, once)
			first, e := read(b, live, p, k) // what stands in its rows by now, whatever it is
			is(t, "Read", e, api.OK)
			reads(t, b, live, p, k, first)
			sameSectors(t, "read", b, once)
		}
	}
}

// P20.1: a window is read where the old geometry has it, whatever stands elsewhere: each sector alone is changed, and is
// told as it is by the one window that has it.
func TestReadWhereItStands(t *testing.T) {
	for _, p := range few() {
		start, live := laid(t, p, p.to.Disks), everyone(p.to.Disks)
		for row, line := range chart(p.a) {
			for d, n := range line {
				b := start.Clone()
				set(t, b, d, api.Data+row, full(77))
				for k := range p.windows() {
					want := p.contents(k)
					if n >= k*p.size() && n < (k+1)*p.size() {
						want[n-k*p.size()] = full(77)
					}
					reads(t, b, live, p, k, want)
				}
			}
		}
	}
}

// P20.1: the windows in any order: a Write touches its own rows alone.
func TestAnyOrder(t *testing.T) {
	for i, p := range few() {
		b, want := painted(t, p.to.Disks), painted(t, p.to.Disks)
		for step := range p.windows() {
			k := (step*7 + i*3) % p.windows() // 7 has no divisor in common with 4, 8, 16
			is(t, "Write", write(b, everyone(p.to.Disks), p, k, p.contents(k)), api.OK)
			layWindow(t, want, p, k)
			sameSectors(t, "written", b, want)
		}
		lay(t, want, p, p.to, 0, api.Rows)
		sameSectors(t, "all written", b, want)
	}
}
