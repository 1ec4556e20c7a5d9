package window_test

import (
	"bytes"
	"slices"
	"testing"

	"wattle/api"
)

// R4: what is handed in is as it was, behind its length too, where a call is done, where it is cut off, and where it is
// refused; sectors that lie one behind the other, or are one and the same, are written all the same.
func TestHandedIn(t *testing.T) {
	for _, p := range few() {
		memory := mixed(9, (p.size()+2)*api.Sector)
		data := make([][]byte, p.size(), p.size()+2)
		for i := range data {
			data[i] = memory[i*api.Sector/2:][:api.Sector] // each shares its halves with its neighbours
		}
		copy(data[:cap(data)][p.size():], fulls(7, 8))
		live := append(everyone(p.to.Disks), true, false, true)
		wasMemory, wasLive, wasData := slices.Clone(memory), slices.Clone(live), slices.Clone(data[:cap(data)])
		b := laid(t, p, p.to.Disks)
		for k := range p.windows() {
			reads(t, b, live[:p.to.Disks], p, k, p.contents(k))
			writes(t, b, live[:p.to.Disks], p, k, data)
			refusesWrite(t, b, live[:p.to.Disks], p, k, data[:p.size()-1])
			refusesWrite(t, b, live[:p.to.Disks], p, k, data[:p.size()+1])
			refuses(t, b, live[:p.to.Disks], p, -1, data)
			b.Limit(k)
			writes(t, b, live[:p.to.Disks-1], p, k, data)
			b.Crash()
		}
		sameList := slices.EqualFunc(data[:cap(data)], wasData, func(x, y []byte) bool { return len(x) == len(y) && cap(x) == cap(y) && &x[0] == &y[0] })
		if !bytes.Equal(memory, wasMemory) || !sameList || !slices.Equal(live, wasLive) {
			t.Error(p, "changed")
		}
	}
}

// R4: what lies behind live's length is not read: those disks are not live.
func TestBehind(t *testing.T) {
	for i, p := range few() {
		b, live := laid(t, p, p.to.Disks), everyone(p.to.Disks)
		for size := range p.to.Disks {
			if readable(b, live[:size], p, 0) {
				reads(t, b, live[:size], p, 0, p.contents(0))
			} else {
				readsNone(t, b, live[:size], p, 0, api.ErrLost)
			}
			c := b.Clone()
			writes(t, c, live[:size], p, 0, several(i, p.size()))
			if c.Writes() != size*p.rows() {
				t.Error(p, size, c.Writes())
			}
		}
	}
}

// R4: what is handed in is not kept: to change it behind a call changes nothing on the bench.
func TestNotKept(t *testing.T) {
	for _, p := range few() {
		b := laid(t, p, p.to.Disks)
		for k := range p.windows() {
			live, data := everyone(p.to.Disks), p.contents(k)
			reads(t, b, live, p, k, data)
			is(t, "Write", write(b, live, p, k, data), api.OK)
			for _, x := range data {
				clear(x)
			}
			clear(data)
			clear(live)
		}
		hasEnd(t, b, p, 0)
	}
}

// R4: what is handed out is new memory: each sector for itself, those past the old end too; to change it, or to write
// behind its length, changes neither the bench, nor another sector, nor another answer.
func TestHandedOut(t *testing.T) {
	for _, p := range few() {
		b := laid(t, p, p.to.Disks)
		was := b.Clone()
		for k := range p.windows() {
			for _, live := range [][]bool{everyone(p.to.Disks), but(p.to.Disks, k%p.a.Disks)} {
				one, e := read(b, live, p, k)
				two, f := read(b, live, p, k)
				if e != api.OK || f != api.OK || len(one) != p.size() {
					t.Fatal(p, k, e, f)
				}
				for i := range one {
					_ = append(one[i], full(0xEE)...)
				}
				if !alike(one, p.contents(k)) {
					t.Fatal(p, k, "one sector lies behind another")
				}
				for i := range one {
					for j := range one[i] {
						one[i][j] ^= byte(i) + 1
					}
				}
				for i, want := range p.contents(k) {
					for j := range want {
						want[j] ^= byte(i) + 1
					}
					if !bytes.Equal(one[i], want) {
						t.Fatal(p, k, i, "two sectors share memory")
					}
				}
				clear(one)
				if !alike(two, p.contents(k)) {
					t.Fatal(p, k, "two answers share memory")
				}
				reads(t, b, live, p, k, p.contents(k))
			}
		}
		same(t, "its own way", b, was)
	}
}

// R4: what was read goes its own way when the bench changes.
func TestKeptByTheCaller(t *testing.T) {
	for _, p := range few() {
		b, live := laid(t, p, p.to.Disks), everyone(p.to.Disks)
		l := make([][][]byte, p.windows())
		for k := range l {
			l[k], _ = read(b, live, p, k)
		}
		for k := range l {
			is(t, "Write", write(b, live, p, k, l[k]), api.OK)
		}
		for d := range p.to.Disks {
			is(t, "Fail", b.Fail(d), api.OK)
		}
		for k := range l {
			if !alike(l[k], p.contents(k)) {
				t.Error(p, k, "changed")
			}
		}
	}
}

// R4: nil and the empty list are the same: of the live disks, of the sectors, and of each of these.
func TestNilAndEmpty(t *testing.T) {
	for i, p := range few() {
		b := laid(t, p, p.to.Disks)
		was := b.Clone()
		for _, live := range [][]bool{nil, {}, everyone(3)[:0]} {
			readsNone(t, b, live, p, 0, api.ErrLost)
			writesNone(t, b, live, p, 0, several(i, p.size()), api.OK)
		}
		for _, data := range [][][]byte{nil, {}, several(0, 3)[:0], make([][]byte, p.size()), append(several(0, p.size()-1), []byte{})} {
			writesNone(t, b, everyone(p.to.Disks), p, 0, data, api.ErrArg)
		}
		same(t, "refused", b, was)
	}
}

// R5: the same question has the same answer, whatever was asked between; a bench, its clone, and another bench have
// nothing to do with each other.
func TestEachBenchByItself(t *testing.T) {
	for i, p := range few() {
		b, other, live := laid(t, p, p.to.Disks), painted(t, api.MaxDisks), everyone(p.to.Disks)
		was, c := b.Clone(), b.Clone()
		for k := range p.windows() {
			moves(t, c, live, p, k)
			for j, q := range few() {
				if q.windows() > k {
					writes(t, other, everyone(api.MaxDisks), q, k, several(i*8+j, q.size()))
				}
			}
			reads(t, b, live, p, k, p.contents(k))
		}
		same(t, "its own way", b, was)
		hasEnd(t, c, p, 0)
		for k := range p.windows() {
			moves(t, b, live, p, k)
		}
		sameSectors(t, "moved", b, c)
	}
}
