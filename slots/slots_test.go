package slots_test

import (
	"bytes"
	"math"
	"slices"
	"testing"

	"wattle/api"
	"wattle/bench"
	"wattle/crc"
	"wattle/slots"
	"wattle/super"
)

// greatest is the greatest Gen that there may be.
const greatest = 1<<31 - 1

// both is a disk's slots.
var both = []int{api.SlotA, api.SlotB}

// of is a Super of this Gen.
func of(gen int) super.Super {
	return super.Super{Gen: gen, A: api.Geom{Level: 5, Disks: 3, Chunk: 1}, Epoch: gen % 65536}
}

// other is a Super of this Gen, with other fields for each k.
func other(gen, k int) super.Super {
	s := super.Super{Gen: gen, A: api.Geom{Level: 5, Disks: 4, Chunk: 2}, Out: k}
	if k%2 == 1 {
		s.B, s.Running, s.Window = api.Geom{Level: 6, Disks: 7, Chunk: 4}, true, k%17
	}
	return s
}

// slotOf is the slot that a Gen asks for, and the other one.
func slotOf(gen int) (its, others int) {
	if gen%2 == 0 {
		return 0, 1
	}
	return 1, 0
}

// encode is the Super's sector, which it must have.
func encode(t *testing.T, s super.Super) []byte {
	t.Helper()
	x, e := super.Encode(s)
	if e != api.OK || len(x) != api.Sector {
		t.Fatalf("Encode(%v): %x, %d", s, x, e)
	}
	return x
}

// full is a sector of one byte.
func full(c byte) []byte {
	return bytes.Repeat([]byte{c}, api.Sector)
}

// newBench is a new bench of so many disks.
func newBench(t *testing.T, disks int) *bench.Bench {
	t.Helper()
	b, e := bench.New(disks)
	if e != api.OK {
		t.Fatal("New", disks, e)
	}
	return b
}

// everyone is a live of so many disks, all of them live.
func everyone(disks int) []bool {
	return slices.Repeat([]bool{true}, disks)
}

// choice is the lowest digits of x, as bools.
func choice(x, size int) []bool {
	l := make([]bool, size)
	for i := range l {
		l[i] = x>>i&1 == 1
	}
	return l
}

// count is how many are true.
func count(l []bool) int {
	n := 0
	for _, x := range l {
		if x {
			n++
		}
	}
	return n
}

// is fails the test unless the answer is the one wanted.
func is(t *testing.T, name string, got, want api.Errno) {
	t.Helper()
	if got != want {
		t.Errorf("%s: %d; want %d", name, got, want)
	}
}

// put sets a sector, as it stands behind a crash too.
func put(t *testing.T, b *bench.Bench, d, at int, x []byte) {
	t.Helper()
	is(t, "Damage", b.Damage(d, at, x), api.OK)
}

// store stores a Super, which must be done, and leave nothing pending.
func store(t *testing.T, b *bench.Bench, live []bool, s super.Super) {
	t.Helper()
	if e := slots.Store(b, live, s); e != api.OK || b.Pending() != 0 {
		t.Errorf("Store(%v, %v): %d, pending %d", live, s, e, b.Pending())
	}
}

// stands fails the test unless x is what stands on disk d at that sector.
func stands(t *testing.T, b *bench.Bench, d, at int, x []byte) {
	t.Helper()
	if got, e := b.Read(d, at); e != api.OK || !bytes.Equal(got, x) {
		t.Errorf("Read %d, %d: %x, %d; want %x", d, at, got, e, x)
	}
}

// finds fails the test unless this is the best Super, and these are the disks that have it, or the one below.
func finds(t *testing.T, name string, b *bench.Bench, s super.Super, has ...bool) {
	t.Helper()
	if got, gotHas, e := slots.Best(b); e != api.OK || got != s || !slices.Equal(gotHas, has) {
		t.Errorf("%s: Best: %v, %v, %d; want %v, %v", name, got, gotHas, e, s, has)
	}
}

// hasNone fails the test unless Best answers this error, and nothing beside it.
func hasNone(t *testing.T, name string, b *bench.Bench, want api.Errno) {
	t.Helper()
	if s, has, e := slots.Best(b); e != want || s != (super.Super{}) || len(has) != 0 {
		t.Errorf("%s: Best: %v, %v, %d; want %d", name, s, has, e, want)
	}
}

// sectors is all that can be read on a bench, disk by disk, with the errors of the reads that fail.
func sectors(b *bench.Bench) []byte {
	var all []byte
	for d := range b.Len() {
		for at := range api.Size {
			x, e := b.Read(d, at)
			all = append(append(all, byte(e)), x...)
		}
	}
	return all
}

// same fails the test unless the benches can't be told from each other, now nor behind a crash.
func same(t *testing.T, name string, b, c *bench.Bench) {
	t.Helper()
	if b.Writes() != c.Writes() || b.Pending() != c.Pending() || b.Down() != c.Down() {
		t.Errorf("%s: %d, %d, %v; want %d, %d, %v", name, b.Writes(), b.Pending(), b.Down(), c.Writes(), c.Pending(), c.Down())
	}
	if !bytes.Equal(sectors(b), sectors(c)) {
		t.Errorf("%s: another sector", name)
	}
	for _, keep := range [][]bool{nil, everyone(b.Pending())} {
		x, y := b.Clone(), c.Clone()
		x.Crash(keep...)
		y.Crash(keep...)
		if !bytes.Equal(sectors(x), sectors(y)) {
			t.Errorf("%s: another sector behind a crash", name)
		}
	}
}

// P10.1: the chapter's example, of each number of disks.
func TestExample(t *testing.T) {
	for n := 1; n <= api.MaxDisks; n++ {
		hasNone(t, "new", newBench(t, n), api.ErrNone)
	}
}

// P10.1: sectors by hand, byte by byte: an odd Gen stands in SlotB, an even one in SlotA; on the live disks alone.
func TestByHand(t *testing.T) {
	const zeros = "\x00\x00\x00\x00\x00\x00\x00\x00\x00"
	odd := []byte("WSUP\x00\x00\x00\x01\x05\x03\x01\x00\x00\x00\x00\x00\x00\x00\x00" + zeros + "\x3C\x45\x6B\xA2")
	even := []byte("WSUP\x00\x00\x01\x02\x06\x05\x04\x00\x00\x00\x00\x00\x00\x03\x05" + zeros + "\xD0\xAD\x40\xB0")
	b := newBench(t, 3)
	store(t, b, []bool{true, false, true}, super.Super{Gen: 1, A: api.Geom{Level: 5, Disks: 3, Chunk: 1}})
	store(t, b, []bool{false, true, true}, super.Super{Gen: 258, A: api.Geom{Level: 6, Disks: 5, Chunk: 4}, Epoch: 3, Out: 5})
	for d, want := range [][2][]byte{{full(0), odd}, {even, full(0)}, {even, odd}} {
		stands(t, b, d, 0, want[0])
		stands(t, b, d, 1, want[1])
	}
	if b.Writes() != 4 {
		t.Error("writes", b.Writes())
	}
}

// P10.1: Supers of rising generations, one after the other: each is found, on each disk in the slot that its generation
// asks for, with the one ahead of it in the other slot; that one is found if the newest is spoilt everywhere.
func TestRising(t *testing.T) {
	for n := 1; n <= api.MaxDisks; n++ {
		for _, first := range []int{1, 2, 255, 65535, greatest - 5} {
			b := newBench(t, n)
			for gen := first; gen < first+6; gen++ {
				store(t, b, everyone(n), other(gen, gen-first))
				finds(t, "stored", b, other(gen, gen-first), everyone(n)...)
				its, others := slotOf(gen)
				c := b.Clone()
				for d := range n {
					stands(t, b, d, its, encode(t, other(gen, gen-first)))
					if gen > first {
						stands(t, b, d, others, encode(t, other(gen-1, gen-1-first)))
					}
					put(t, c, d, its, full(0xEE))
				}
				if gen == first {
					hasNone(t, "the only one is spoilt", c, api.ErrNone)
				} else {
					finds(t, "the newest is spoilt", c, other(gen-1, gen-1-first), everyone(n)...)
				}
				if b.Writes() != n*(gen-first+1) {
					t.Error(n, gen, "writes", b.Writes())
				}
				b.Crash()
				finds(t, "crashed", b, other(gen, gen-first), everyone(n)...)
			}
		}
	}
}

// P10.1: stored on some disks alone, whichever they are: ahead of it nothing stood anywhere, or all disks had the Gen
// below, or all had one two below.
func TestSomeDisks(t *testing.T) {
	for x := range 1 << 4 {
		live := choice(x, 4)
		for ahead, s := range []super.Super{of(9), of(8), of(7)} {
			b := newBench(t, 4)
			if ahead > 0 {
				store(t, b, everyone(4), other(9-ahead, 3))
			}
			was := b.Clone()
			store(t, b, live, of(9))
			its, others := slotOf(9)
			for d := range live {
				theOther, _ := was.Read(d, others)
				stands(t, b, d, others, theOther)
				want, _ := was.Read(d, its)
				if live[d] {
					want = encode(t, of(9))
				}
				stands(t, b, d, its, want)
			}
			switch {
			case x == 0 && ahead == 0:
				hasNone(t, "none is live", b, api.ErrNone)
			case x == 0:
				finds(t, "none is live", b, other(s.Gen, 3), everyone(4)...)
			case ahead == 1:
				finds(t, "the one below is everywhere", b, of(9), everyone(4)...)
			default:
				finds(t, "some are live", b, of(9), live...)
			}
			if b.Writes() != was.Writes()+count(live) {
				t.Error(live, ahead, "writes", b.Writes())
			}
		}
	}
}

// P10.1: has, by hand: of a disk one of whose slots has that Gen, or the one below, and of no other.
func TestHas(t *testing.T) {
	for _, r := range []struct {
		slots [][2]int // of each disk the Gen in each slot; 0: none
		want  []bool
		gen   int
	}{
		{[][2]int{{0, 9}, {8, 0}, {0, 7}, {8, 9}, {0, 0}, {8, 7}, {6, 7}, {6, 0}}, []bool{true, true, false, true, false, true, false, false}, 9},
		{[][2]int{{0, 7}, {10, 0}, {0, 9}, {10, 9}, {8, 7}, {8, 9}, {0, 1}, {2, 0}}, []bool{false, true, true, true, false, true, false, false}, 10},
		{[][2]int{{0, 0}, {0, 1}, {0, 0}}, []bool{false, true, false}, 1},               // a slot with none has not the one below
		{[][2]int{{0, 0}, {2, 1}, {0, 1}, {2, 0}}, []bool{false, true, true, true}, 2},  // the least that has one below
		{[][2]int{{0, 1}, {0, 3}, {2, 0}, {0, 0}}, []bool{false, true, true, false}, 3}, // two below is not enough
		{[][2]int{{0, greatest}, {greatest - 1, 0}, {0, greatest - 2}}, []bool{true, true, false}, greatest},
		{[][2]int{{0, 1}, {0, greatest}, {2, 0}}, []bool{false, true, false}, greatest},
		{[][2]int{{256, 0}, {0, 255}, {512, 0}, {0, 511}, {0, 257}}, []bool{false, false, true, true, false}, 512},
		{[][2]int{{9, 0}, {0, 8}, {9, 8}, {8, 9}, {7, 0}}, []bool{true, true, true, true, false}, 9}, // each in the slot that it does not ask for
		{[][2]int{{5, 5}, {4, 4}, {3, 3}}, []bool{true, true, false}, 5},                             // the same in both
	} {
		b := newBench(t, len(r.slots))
		for d, pair := range r.slots {
			for at, gen := range pair {
				if gen > 0 {
					put(t, b, d, at, encode(t, of(gen)))
				}
			}
		}
		finds(t, "by hand", b, of(r.gen), r.want...)
	}
}

// P10.1: has, by calls of Store alone: a disk falls back as others get newer ones, and is had again once it gets one.
func TestHasByStores(t *testing.T) {
	b := newBench(t, 3)
	for i, r := range []struct {
		live []bool
		gen  int
		want []bool
	}{
		{[]bool{true, true, true}, 1, []bool{true, true, true}},
		{[]bool{true, false, true}, 2, []bool{true, true, true}},
		{[]bool{true, false, true}, 3, []bool{true, false, true}},
		{[]bool{false, true}, 4, []bool{true, true, true}},
		{[]bool{false, true}, 5, []bool{false, true, false}},
		{[]bool{false, false, true}, 5, []bool{false, true, true}},
		{[]bool{true, false, true}, 6, []bool{true, true, true}},
	} {
		store(t, b, r.live, of(r.gen))
		if _, has, e := slots.Best(b); e != api.OK || !slices.Equal(has, r.want) {
			t.Error(i, has, e)
		}
		finds(t, "stored", b, of(r.gen), r.want...)
	}
}

// P10.1: an older one, stored later, does not become the best; it is had if it is the one below, and takes the place of
// what stood in its slot.
func TestOlder(t *testing.T) {
	b := newBench(t, 3)
	store(t, b, everyone(3), of(10))
	store(t, b, []bool{true}, of(9))
	finds(t, "one below", b, of(10), true, true, true)
	store(t, b, []bool{true}, of(8))
	finds(t, "two below, over the best, one below beside it", b, of(10), true, true, true)
	store(t, b, []bool{false, true}, of(8))
	finds(t, "two below, over the best", b, of(10), true, false, true)
	store(t, b, []bool{false, false, true}, of(6))
	finds(t, "the last best is gone", b, of(9), true, true, false)
}

// P10.1: Gen 1 and 2^31 - 1, the least and the greatest: each in its slot, and each found.
func TestLeastAndGreatest(t *testing.T) {
	b := newBench(t, 3)
	store(t, b, []bool{false, true}, of(1))
	finds(t, "least", b, of(1), false, true, false)
	stands(t, b, 1, api.SlotB, encode(t, of(1)))
	stands(t, b, 1, api.SlotA, full(0))
	store(t, b, []bool{true}, of(greatest))
	finds(t, "greatest", b, of(greatest), true, false, false)
	stands(t, b, 0, api.SlotB, encode(t, of(greatest)))
	stands(t, b, 0, api.SlotA, full(0))
	store(t, b, []bool{false, false, true}, of(greatest-1))
	finds(t, "one below the greatest", b, of(greatest), true, false, true)
	stands(t, b, 2, api.SlotA, encode(t, of(greatest-1)))
	stands(t, b, 2, api.SlotB, full(0))
	for _, gen := range []int{0, greatest + 1, -1, math.MaxInt, math.MinInt} {
		was := b.Clone()
		is(t, "past them", slots.Store(b, everyone(3), super.Super{Gen: gen, A: of(1).A}), api.ErrArg)
		same(t, "past them", b, was)
	}
}

// P10.1: of several with the greatest Gen, with different fields, the first disk's, whatever the disks behind it have;
// on one disk what stands in SlotA comes first.
func TestFirstDisks(t *testing.T) {
	for _, gen := range []int{1, 4, 5, greatest} {
		for first := range 5 {
			b := newBench(t, 5)
			its, others := slotOf(gen)
			for d := range 5 {
				switch {
				case d >= first:
					store(t, b, choice(1<<d, 5), other(gen, 4-d))
				case gen > 2:
					put(t, b, d, others, encode(t, other(gen-1, 100+d)))
				}
			}
			want := everyone(5)
			if gen <= 2 {
				want = choice(31<<first&31, 5)
			}
			finds(t, "the first disk's", b, other(gen, 4-first), want...)
			// in whichever of its slots the first disk has it
			put(t, b, first, others, encode(t, other(gen, 4-first)))
			put(t, b, first, its, full(0))
			finds(t, "the first disk's, in its other slot", b, other(gen, 4-first), want...)
			put(t, b, first, api.SlotA, encode(t, other(gen, 200)))
			put(t, b, first, api.SlotB, encode(t, other(gen, 201)))
			finds(t, "the first disk's first", b, other(gen, 200), want...)
			put(t, b, first, api.SlotA, full(0))
			finds(t, "the first disk's only one", b, other(gen, 201), want...)
		}
	}
}

// P10.1, R8: a live with fewer entries than there are disks, none, and more: the rest is not live, and what is past the
// disks is nothing; what lies behind its length is not read.
func TestLiveLengths(t *testing.T) {
	for n := 1; n <= api.MaxDisks; n++ {
		for size := range 20 {
			for _, x := range []int{-1, 0, 0x55555, 0xAAAAA, -1 << n} {
				b, c := newBench(t, n), newBench(t, n)
				live := choice(x, size)
				store(t, b, live, of(3))
				want := make([]bool, n)
				copy(want, live)
				store(t, c, want, of(3))
				same(t, "as long as the bench", b, c)
				if b.Writes() != count(want) {
					t.Error(n, live, b.Writes())
				}
				if count(want) > 0 {
					finds(t, "stored", b, of(3), want...)
				} else {
					hasNone(t, "none is live", b, api.ErrNone)
				}
				c = newBench(t, n)
				store(t, c, append(slices.Clone(live), everyone(20)...)[:size], of(3))
				same(t, "true behind its length", c, b)
			}
		}
	}
}

// P10.1, R4: no disk is live: nil, the empty list, or no true in it: nothing is written, and nothing changes.
func TestNobodyLive(t *testing.T) {
	for _, live := range [][]bool{nil, {}, {false}, make([]bool, 3), make([]bool, 20)} {
		b := newBench(t, 3)
		hasNone(t, "new", b, api.ErrNone)
		store(t, b, live, of(1))
		hasNone(t, "none is live", b, api.ErrNone)
		same(t, "none is live", b, newBench(t, 3))
		is(t, "Write", b.Write(1, 40, full(7)), api.OK)
		was := b.Clone()
		is(t, "Store", slots.Store(b, live, of(2)), api.OK)
		same(t, "what is pending stays so", b, was)
		b.Limit(0)
		is(t, "Write", b.Write(1, 40, full(7)), api.ErrDown)
		was = b.Clone()
		is(t, "nothing is asked of the bench", slots.Store(b, live, of(2)), api.OK)
		same(t, "without power", b, was)
	}
}

// P10.1: one slot spoilt, and the other one right, on each disk by itself.
func TestSpoilt(t *testing.T) {
	for d := range 3 {
		for _, gen := range []int{2, 3, greatest} {
			its, others := slotOf(gen)
			b := newBench(t, 3)
			store(t, b, everyone(3), of(gen-1))
			store(t, b, everyone(3), of(gen))
			c := b.Clone()
			put(t, b, d, its, full(3))
			finds(t, "the newest is spoilt there", b, of(gen), true, true, true)
			put(t, c, d, others, full(3))
			finds(t, "the older one is spoilt there", c, of(gen), true, true, true)
			put(t, b, d, others, full(3))
			want := everyone(3)
			want[d] = false
			finds(t, "both are spoilt there", b, of(gen), want...)
			for o := range 3 {
				if o != d {
					put(t, c, o, its, full(4))
					put(t, c, o, others, full(4))
				}
			}
			finds(t, "the newest is on that disk alone", c, of(gen), choice(1<<d, 3)...)
			// the one disk left has the older one alone
			put(t, c, d, others, encode(t, of(gen-1)))
			put(t, c, d, its, full(5))
			finds(t, "the older one is on that disk alone", c, of(gen-1), choice(1<<d, 3)...)
		}
	}
}

// P10.1, wrong inputs: bytes that are no Super: each one of the best's bytes another, or other bytes, sealed as a
// Super's; they are passed over, whatever Gen they tell.
func TestNoSuper(t *testing.T) {
	right := encode(t, of(9))
	wrong := [][]byte{full(0), full(0xFF), full('W'), append([]byte("WREC"), right[4:]...)}
	for i := range api.Sector {
		x := slices.Clone(right)
		x[i]++
		wrong = append(wrong, x)
	}
	// sealed, but no Super: another mark, no Gen, one past the greatest, no geometry, Running neither 0 nor 1
	for _, f := range []struct {
		at int
		c  byte
	}{{0, 'w'}, {3, 'X'}, {7, 0}, {4, 0x80}, {8, 7}, {9, 2}, {14, 2}, {27, 1}} {
		x := slices.Clone(right)
		x[f.at] = f.c
		crc.Seal(x)
		wrong = append(wrong, x)
	}
	for i, x := range wrong {
		for _, at := range both {
			b := newBench(t, 3)
			put(t, b, 1, at, x)
			hasNone(t, "no Super anywhere", b, api.ErrNone)
			store(t, b, []bool{false, false, true}, of(7))
			finds(t, "no Super ahead of one", b, of(7), false, false, true)
			put(t, b, 1, 1-at, encode(t, of(6)))
			finds(t, "no Super beside one", b, of(7), false, true, true)
			put(t, b, 1, 1-at, x)
			finds(t, "no Super in both slots", b, of(7), false, false, true)
			put(t, b, 2, api.SlotA, x)
			put(t, b, 2, api.SlotB, x)
			hasNone(t, "no Super anywhere any more", b, api.ErrNone)
		}
		if t.Failed() {
			t.Fatal(i, x)
		}
	}
}

// P10.1: a Super in another place than a slot is none.
func TestOtherPlaces(t *testing.T) {
	b := newBench(t, 2)
	for at := 2; at < api.Size; at++ {
		put(t, b, 0, at, encode(t, of(50)))
		put(t, b, 1, at, encode(t, of(49)))
	}
	hasNone(t, "in other places", b, api.ErrNone)
	store(t, b, []bool{true}, of(1))
	finds(t, "in other places", b, of(1), true, false)
}

// P10.1, R2, wrong inputs: a Super that may not be: nothing is written, and nothing settled; that comes ahead of all
// errors of the bench.
func TestWrongSupers(t *testing.T) {
	for i, s := range []super.Super{
		{},
		{Gen: 1},
		{Gen: 0, A: of(1).A},
		{Gen: -7, A: of(1).A},
		{Gen: greatest + 1, A: of(1).A},
		{Gen: 3, A: api.Geom{Level: 4, Disks: 3, Chunk: 1}},
		{Gen: 3, A: of(1).A, B: of(1).A},
		{Gen: 3, A: of(1).A, B: of(1).A, Running: true},
		{Gen: 3, A: of(1).A, Window: 1},
		{Gen: 4, A: of(1).A, Epoch: 65536},
		{Gen: 4, A: of(1).A, Out: 256},
		{Gen: 4, A: of(1).A, Out: -1},
	} {
		b := newBench(t, 3)
		store(t, b, everyone(3), of(2))
		is(t, "Write", b.Write(0, 40, full(7)), api.OK)
		is(t, "Fail", b.Fail(1), api.OK)
		for _, down := range []bool{false, true} {
			if down {
				b.Limit(0)
				is(t, "Write", b.Write(0, 41, full(7)), api.ErrDown)
			}
			for _, live := range [][]bool{nil, everyone(3), {true}, {false, true}, everyone(9)} {
				was := b.Clone()
				if e := slots.Store(b, live, s); e != api.ErrArg {
					t.Error(i, down, live, e)
				}
				same(t, "refused", b, was)
			}
		}
		b.Crash()
		finds(t, "refused", b, of(2), true, false, true)
	}
}

// P10.1: disks that have failed, live or not: passed over by Store and by Best, with the errors of no write; each
// choice of them, and of who is live.
func TestFailed(t *testing.T) {
	for x := range 1 << 4 {
		failed := choice(x, 4)
		for y := range 1 << 4 {
			live := choice(y, 4)
			b := newBench(t, 4)
			store(t, b, everyone(4), other(6, 2))
			for d := range failed {
				if failed[d] {
					is(t, "Fail", b.Fail(d), api.OK)
				}
			}
			store(t, b, live, of(8))
			want := make([]bool, 4)
			for d := range want {
				want[d] = live[d] && !failed[d]
				if b.Failed(d) != failed[d] {
					t.Error("Failed", d)
				}
			}
			switch {
			case x == 15:
				hasNone(t, "all have failed", b, api.ErrNone)
			case count(want) == 0:
				for d := range want {
					want[d] = !failed[d]
				}
				finds(t, "none is written", b, other(6, 2), want...)
			default:
				if b.Writes() != 4+count(want) {
					t.Error(failed, live, "writes", b.Writes())
				}
				finds(t, "some are written", b, of(8), want...)
			}
		}
	}
}

// P10.1: behind a disk that has failed, the others are written and settled, and the power goes as with that disk not
// there.
func TestFailedAndPower(t *testing.T) {
	for d := range 3 {
		b := newBench(t, 3)
		store(t, b, everyone(3), of(1))
		is(t, "Fail", b.Fail(d), api.OK)
		c := b.Clone()
		b.Limit(2)
		store(t, b, everyone(3), of(2))
		want := everyone(3)
		want[d] = false
		finds(t, "just enough power", b, of(2), want...)
		c.Limit(1)
		is(t, "Store", slots.Store(c, everyone(3), of(2)), api.ErrDown)
		hasNone(t, "down", c, api.ErrDown)
		if c.Writes() != 4 || c.Pending() != 1 {
			t.Error("one is written", c.Writes(), c.Pending())
		}
		c.Crash(true)
		finds(t, "one is written", c, of(2), want...)
		// a new disk in its place has nothing, till it is written
		b.Limit(-1)
		is(t, "Replace", b.Replace(d), api.OK)
		finds(t, "replaced", b, of(2), want...)
		store(t, b, choice(1<<d, 3), of(2))
		finds(t, "replaced and written", b, of(2), true, true, true)
	}
}

// P10.1, R3: a bench without power ahead of a Store, and ahead of Best: that is told, also if all disks have failed, or
// there is no Super, with nothing beside; nothing changes.
func TestNoPower(t *testing.T) {
	for _, failed := range []int{0, 1, 3} {
		for _, stored := range []bool{false, true} {
			b := newBench(t, 3)
			if stored {
				store(t, b, everyone(3), of(1))
			}
			is(t, "Write", b.Write(2, 50, full(1)), api.OK)
			b.Limit(0)
			is(t, "Write", b.Write(2, 51, full(1)), api.ErrDown)
			for d := range failed {
				is(t, "Fail", b.Fail(d), api.OK)
			}
			was := b.Clone()
			for _, live := range [][]bool{everyone(3), {true}, {false, true}, {false, false, true}, everyone(8)} {
				for range 2 {
					is(t, "Store", slots.Store(b, live, of(2)), api.ErrDown)
					hasNone(t, "down", b, api.ErrDown)
				}
			}
			same(t, "without power", b, was)
			b.Crash()
			if stored && failed < 3 {
				finds(t, "up", b, of(1), choice(7<<failed&7, 3)...)
			} else {
				hasNone(t, "up", b, api.ErrNone)
			}
		}
	}
}

// P10.1: the power goes at each write of a Store, whoever is live: what was written so far is pending, all of it, and any
// choice of it may survive; Best is then the new one if one of it did, and the old one otherwise.
func TestPowerGoes(t *testing.T) {
	for x := range 1 << 4 {
		live := choice(x, 4)
		for limit := range count(live) {
			for ahead := range 3 {
				b := newBench(t, 4)
				if ahead > 0 {
					store(t, b, everyone(4), of(20-ahead))
				}
				done := b.Writes()
				b.Limit(limit)
				is(t, "Store", slots.Store(b, live, of(20)), api.ErrDown)
				hasNone(t, "down", b, api.ErrDown)
				if b.Writes() != done+limit || b.Pending() != limit || !b.Down() {
					t.Error(live, limit, b.Writes(), b.Pending(), b.Down())
				}
				for y := range 1 << limit {
					survives(t, b, live, choice(y, limit), ahead)
				}
			}
		}
	}
}

// survives fails the test unless behind the crash that keeps these of a cut Store's writes Best is what has survived;
// ahead is how many below it stood on all disks (0: nothing did).
func survives(t *testing.T, b *bench.Bench, live, keep []bool, ahead int) {
	t.Helper()
	c := b.Clone()
	c.Crash(keep...)
	has := make([]bool, len(live))
	for d := range live {
		if live[d] && len(keep) > 0 {
			has[d], keep = keep[0], keep[1:]
		}
	}
	switch {
	case count(has) == 0 && ahead == 0:
		hasNone(t, "nothing survives", c, api.ErrNone)
	case count(has) == 0:
		finds(t, "nothing new survives", c, of(20-ahead), everyone(len(live))...)
	case ahead == 1:
		finds(t, "beside the one below", c, of(20), everyone(len(live))...)
	default:
		finds(t, "some survive", c, of(20), has...)
	}
	// and it is stored again as if nothing had been
	store(t, c, live, of(20))
	if ahead != 1 {
		finds(t, "stored again", c, of(20), live...)
	}
}

// P10.1: a limit of just as many writes as a Store needs lets it be done and settled: a flush is no write.
func TestPowerSuffices(t *testing.T) {
	for x := range 1 << 4 {
		live := choice(x, 4)
		b := newBench(t, 4)
		store(t, b, everyone(4), of(1))
		b.Limit(count(live))
		store(t, b, live, of(3))
		if b.Down() {
			t.Error(live, "down")
		}
		is(t, "the next", b.Write(0, 40, full(1)), api.ErrDown)
		b.Crash()
		if x == 0 {
			finds(t, "crashed", b, of(1), everyone(4)...)
		} else {
			finds(t, "crashed", b, of(3), live...)
		}
	}
}

// P10.1: a Store touches no sector but its slot on the live disks; what was pending on those is settled with it, what is
// pending on others stays so.
func TestNoOtherSector(t *testing.T) {
	for _, gen := range []int{4, 5} {
		for x := range 1 << 3 {
			live := choice(x, 3)
			b := newBench(t, 3)
			for d := range 3 {
				for at := range api.Size {
					put(t, b, d, at, full(byte(1+d*api.Size+at)))
				}
				is(t, "Write", b.Write(d, 30+d, full(0xF0)), api.OK)
				is(t, "Write", b.Write(d, 0, full(0xF1)), api.OK)
				is(t, "Write", b.Write(d, 1, full(0xF2)), api.OK)
			}
			want := b.Clone()
			is(t, "Store", slots.Store(b, live, of(gen)), api.OK)
			its, _ := slotOf(gen)
			for d := range 3 {
				if live[d] {
					is(t, "Write", want.Write(d, its, encode(t, of(gen))), api.OK)
					is(t, "Flush", want.Flush(d), api.OK)
				}
			}
			same(t, "its slot alone", b, want)
		}
	}
}

// P10.1: what is stored already is written anew all the same: it counts, and takes the power.
func TestStoredAgain(t *testing.T) {
	b := newBench(t, 3)
	for i := range 4 {
		store(t, b, everyone(3), of(5))
		finds(t, "again", b, of(5), true, true, true)
		if b.Writes() != 3*(i+1) {
			t.Error("writes", b.Writes())
		}
	}
	b.Limit(0)
	is(t, "Store", slots.Store(b, everyone(3), of(5)), api.ErrDown)
}

// P10.1: Best reads what was written last, pending or not, and changes nothing.
func TestBestReadsOnly(t *testing.T) {
	b := newBench(t, 3)
	store(t, b, everyone(3), of(5))
	is(t, "Write", b.Write(1, 0, encode(t, of(6))), api.OK)
	is(t, "Write", b.Write(2, 1, full(0)), api.OK)
	is(t, "Fail", b.Fail(0), api.OK)
	was := b.Clone()
	for range 3 {
		finds(t, "pending", b, of(6), false, true, false)
	}
	same(t, "asked", b, was)
	b.Crash()
	finds(t, "crashed", b, of(5), false, true, true)
	b.Limit(0)
	for range 3 {
		finds(t, "no write is left", b, of(5), false, true, true)
	}
	if b.Down() {
		t.Error("Best takes the power")
	}
}

// R4: what is handed in is neither changed nor kept, nor is what lies behind its length.
func TestHandedIn(t *testing.T) {
	all := []bool{true, false, true, true, false, true}
	was := slices.Clone(all)
	b := newBench(t, 4)
	store(t, b, all[:3], of(2))
	b.Limit(1)
	is(t, "Store", slots.Store(b, all[:3], of(3)), api.ErrDown)
	is(t, "Store", slots.Store(b, all[:3], super.Super{}), api.ErrArg)
	if !slices.Equal(all, was) {
		t.Error("changed", all)
	}
	clear(all)
	b.Crash(true)
	finds(t, "its own way", b, of(3), true, false, true, false)
}

// R4: each has is new memory: to change it, or to write behind its length, changes nothing.
func TestHandedOut(t *testing.T) {
	b := newBench(t, 3)
	store(t, b, []bool{true, false, true}, of(2))
	_, one, _ := slots.Best(b)
	_, two, _ := slots.Best(b)
	for i := range one {
		one[i] = !one[i]
	}
	_ = append(one, true, true)
	if !slices.Equal(two, []bool{true, false, true}) {
		t.Error("two answers share memory", two)
	}
	finds(t, "asked again", b, of(2), true, false, true)
	store(t, b, everyone(3), of(7))
	if !slices.Equal(two, []bool{true, false, true}) {
		t.Error("an answer changes behind its call", two)
	}
}

// R5: two benches, and a bench and its clone, have nothing to do with each other.
func TestEachBenchByItself(t *testing.T) {
	b, c := newBench(t, 2), newBench(t, 5)
	store(t, b, everyone(2), of(3))
	hasNone(t, "another bench", c, api.ErrNone)
	store(t, c, []bool{false, true}, other(2, 9))
	d := b.Clone()
	store(t, d, []bool{true}, of(9))
	finds(t, "one", b, of(3), true, true)
	finds(t, "another", c, other(2, 9), false, true, false, false, false)
	finds(t, "a clone", d, of(9), true, false)
}
