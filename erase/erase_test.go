package erase_test

import (
	"bytes"
	"math"
	"slices"
	"testing"

	"wattle/api"
	"wattle/erase"
	"wattle/gf"
)

// twice is a times 2 in the field, reckoned here so that the tests hang on no other package's work.
func twice(a byte) byte {
	if a >= 128 {
		return a<<1 ^ 0x1D
	}
	return a << 1
}

// sums is P and Q of the parts, none of them missing: Q from the last part on, doubled on the way to the first.
func sums(parts [][]byte) (p, q []byte) {
	p, q = make([]byte, len(parts[0])), make([]byte, len(parts[0]))
	for k := len(parts) - 1; k >= 0; k-- {
		for i, x := range parts[k] {
			p[i] ^= x
			q[i] = twice(q[i]) ^ x
		}
	}
	return p, q
}

// mixed is n bytes, most of them unlike their neighbours, others for another seed.
func mixed(n, seed int) []byte {
	b := make([]byte, n)
	x := uint32(seed)*2654435761 + uint32(n)
	for i := range b {
		x = x*1664525 + 1013904223
		b[i] = byte(x >> 24)
	}
	return b
}

// several is n parts of size mixed bytes each.
func several(n, size int) [][]byte {
	parts := make([][]byte, n)
	for k := range parts {
		parts[k] = mixed(size, k+1)
	}
	return parts
}

// without is another list of the same parts, but those at the places gone are nil.
func without(parts [][]byte, gone ...int) [][]byte {
	left := slices.Clone(parts)
	for _, k := range gone {
		left[k] = nil
	}
	return left
}

// copied is another list of the same parts, in memory of its own.
func copied(parts [][]byte) [][]byte {
	c := make([][]byte, len(parts))
	for k := range parts {
		c[k] = slices.Clone(parts[k])
	}
	return c
}

func same(a, b [][]byte) bool {
	return slices.EqualFunc(a, b, bytes.Equal)
}

// within is b with room behind its length; all is b and that room.
func within(b []byte) (short, all []byte) {
	all = append(slices.Clone(b), mixed(40, 99)...)
	return all[:len(b)], all
}

// choices are all ways to lose none, one or two of n parts.
func choices(n int) [][]int {
	l := [][]int{nil}
	for i := range n {
		l = append(l, []int{i})
		for j := i + 1; j < n; j++ {
			l = append(l, []int{i, j})
		}
	}
	return l
}

// kept is b, or nothing.
func kept(b []byte, keep bool) []byte {
	if keep {
		return b
	}
	return nil
}

// refused fails the test unless Solve is false, with nothing beside it.
func refused(t *testing.T, name string, size int, p, q []byte, parts ...[]byte) {
	t.Helper()
	if got, ok := erase.Solve(size, p, q, parts...); ok || len(got) != 0 {
		t.Errorf("%s: %v, %v", name, got, ok)
	}
}

// P4.1: the places of those that are nil, or empty, rising.
func TestMissing(t *testing.T) {
	x, short := []byte{7}, []byte{1, 2, 3}
	for i, r := range []struct {
		parts [][]byte
		want  []int
	}{
		{nil, nil},
		{[][]byte{}, nil},
		{[][]byte{x}, nil},
		{[][]byte{{0}}, nil},
		{[][]byte{nil}, []int{0}},
		{[][]byte{{}}, []int{0}},
		{[][]byte{short[:0]}, []int{0}},
		{[][]byte{x, nil, x, {}}, []int{1, 3}},
		{[][]byte{nil, x, {}, mixed(5, 1), nil, nil, {0, 0}}, []int{0, 2, 4, 5}},
		{make([][]byte, 12), []int{0, 1, 2, 3, 4, 5, 6, 7, 8, 9, 10, 11}},
		{append(slices.Repeat([][]byte{x}, 300), nil), []int{300}},
	} {
		if got := erase.Missing(r.parts...); !slices.Equal(got, r.want) {
			t.Errorf("%d: %v, not %v", i, got, r.want)
		}
	}
	if got := erase.Missing(make([][]byte, 1<<16)...); len(got) != 1<<16 || got[1<<16-1] != 1<<16-1 {
		t.Errorf("of a great many: %d", len(got))
	}
}

// P4.1: the chapter's example, and parts reckoned by hand.
func TestSolveKnown(t *testing.T) {
	for i, r := range []struct {
		p, q  []byte
		parts [][]byte
		want  [][]byte
	}{
		{[]byte{3}, nil, [][]byte{{1}, nil}, [][]byte{{1}, {2}}},
		// 1, 2, 4: P is 1 ^ 2 ^ 4, Q is 1 ^ 4 ^ 16.
		{[]byte{7}, nil, [][]byte{nil, {2}, {4}}, [][]byte{{1}, {2}, {4}}},
		{nil, []byte{21}, [][]byte{nil, {2}, {4}}, [][]byte{{1}, {2}, {4}}},
		{nil, []byte{21}, [][]byte{{1}, nil, {4}}, [][]byte{{1}, {2}, {4}}},
		{nil, []byte{21}, [][]byte{{1}, {2}, nil}, [][]byte{{1}, {2}, {4}}},
		{[]byte{7}, []byte{21}, [][]byte{nil, nil, {4}}, [][]byte{{1}, {2}, {4}}},
		{[]byte{7}, []byte{21}, [][]byte{nil, {2}, nil}, [][]byte{{1}, {2}, {4}}},
		{[]byte{7}, []byte{21}, [][]byte{{1}, nil, nil}, [][]byte{{1}, {2}, {4}}},
		// 128, 128: P is 0, Q is 128 ^ 29.
		{[]byte{0}, []byte{157}, [][]byte{nil, nil}, [][]byte{{128}, {128}}},
		{nil, []byte{157}, [][]byte{{128}, nil}, [][]byte{{128}, {128}}},
		{nil, []byte{157}, [][]byte{nil, {128}}, [][]byte{{128}, {128}}},
		// 3, 9 and 5, 200: P is 3 ^ 5, 9 ^ 200, Q is 3 ^ 10, 9 ^ 141.
		{[]byte{6, 193}, []byte{9, 132}, [][]byte{nil, nil}, [][]byte{{3, 9}, {5, 200}}},
		{nil, nil, [][]byte{{0, 255}}, [][]byte{{0, 255}}},
	} {
		if got, ok := erase.Solve(len(r.want[0]), r.p, r.q, r.parts...); !ok || !same(got, r.want) {
			t.Errorf("%d: %v, %v, not %v", i, got, ok, r.want)
		}
	}
}

// P4.1: one part to eight, many sizes, each one and each two missing, with p, q, both and neither of them there.
func TestSolveEach(t *testing.T) {
	for n := 1; n <= 8; n++ {
		for _, size := range []int{1, 2, 3, api.Sector, 100} {
			all := several(n, size)
			p, q := sums(all)
			for _, gone := range choices(n) {
				for there := range 4 {
					hasP, hasQ := there&1 != 0, there&2 != 0
					got, ok := erase.Solve(size, kept(p, hasP), kept(q, hasQ), without(all, gone...)...)
					if want := len(gone) <= there&1+there>>1; ok != want {
						t.Fatalf("%d parts of %d bytes, without %v, p %v, q %v: %v", n, size, gone, hasP, hasQ, ok)
					}
					if ok && !same(got, all) || !ok && len(got) != 0 {
						t.Fatalf("%d parts of %d bytes, without %v, p %v, q %v: %v, not %v", n, size, gone, hasP, hasQ, got, all)
					}
				}
			}
		}
	}
}

// P4.1: each byte that a lost part can have, at each place, by P, by Q, and by both with each other one lost.
func TestSolveEachByte(t *testing.T) {
	for k := range 8 {
		all := several(8, 256)
		for i := range 256 {
			all[k][i] = byte(i)
		}
		p, q := sums(all)
		if got, ok := erase.Solve(256, p, nil, without(all, k)...); !ok || !same(got, all) {
			t.Errorf("%d by P", k)
		}
		if got, ok := erase.Solve(256, nil, q, without(all, k)...); !ok || !same(got, all) {
			t.Errorf("%d by Q", k)
		}
		for j := range 8 {
			if got, ok := erase.Solve(256, p, q, without(all, k, j)...); !ok || !same(got, all) {
				t.Errorf("%d and %d by both", k, j)
			}
		}
	}
}

// P4.1: p, q that are the sums of no parts that were: the answer is what has these sums, as far as they count.
func TestSolveAsPAndQ(t *testing.T) {
	for n := 1; n <= 8; n++ {
		parts, p, q := several(n, 16), mixed(16, 70), mixed(16, 80)
		for _, gone := range choices(n) {
			got, ok := erase.Solve(16, p, q, without(parts, gone...)...)
			if !ok || !same(without(got, gone...), without(parts, gone...)) {
				t.Fatalf("%d without %v: %v, %v", n, gone, got, ok)
			}
			gotP, gotQ := sums(got)
			if len(gone) > 0 && !bytes.Equal(gotP, p) {
				t.Errorf("%d without %v: P is %v, not %v", n, gone, gotP, p)
			}
			if len(gone) == 2 && !bytes.Equal(gotQ, q) {
				t.Errorf("%d without %v: Q is %v, not %v", n, gone, gotQ, q)
			}
			if len(gone) != 1 {
				continue
			}
			got, ok = erase.Solve(16, nil, q, without(parts, gone...)...)
			if _, gotQ := sums(got); !ok || !bytes.Equal(gotQ, q) {
				t.Errorf("%d without %v and p: Q is %v, not %v", n, gone, gotQ, q)
			}
		}
	}
}

// P4.1, the edge: nothing missing: the parts as they are, whatever p and q say of them.
func TestNothingMissing(t *testing.T) {
	for n := 1; n <= 8; n++ {
		all := several(n, 4)
		p, q := sums(all)
		wrong := []byte{1, 2, 3, 4}
		for i, r := range [][2][]byte{{p, q}, {p, nil}, {nil, q}, {nil, nil}, {{}, {}}, {wrong, q}, {p, wrong}, {wrong, wrong}, {wrong, nil}, {nil, wrong}} {
			if got, ok := erase.Solve(4, r[0], r[1], all...); !ok || !same(got, all) {
				t.Errorf("%d parts, %d: %v, %v", n, i, got, ok)
			}
		}
	}
}

// P4.1, the edge: one missing, both p and q there: p alone counts.
func TestOneMissingByP(t *testing.T) {
	for n := 1; n <= 8; n++ {
		all := several(n, 4)
		p, _ := sums(all)
		for k := range n {
			for _, q := range [][]byte{nil, {}, {9, 9, 9, 9}, mixed(4, 50)} {
				if got, ok := erase.Solve(4, p, q, without(all, k)...); !ok || !same(got, all) {
					t.Errorf("%d of %d with q %v: %v, %v", k, n, q, got, ok)
				}
			}
		}
	}
	if got, ok := erase.Solve(1, []byte{3}, []byte{99}, []byte{1}, nil); !ok || !same(got, [][]byte{{1}, {2}}) {
		t.Errorf("%v, %v", got, ok)
	}
}

// P4.1, the edge: one part, which is its own P and Q.
func TestOnePart(t *testing.T) {
	for _, size := range []int{1, api.Sector, 1000} {
		a, b := mixed(size, 3), mixed(size, 4)
		for i, r := range []struct{ p, q, part, want []byte }{{nil, nil, a, a}, {b, b, a, a}, {a, nil, nil, a}, {nil, a, nil, a}, {a, b, nil, a}, {a, []byte{}, nil, a}} {
			if got, ok := erase.Solve(size, r.p, r.q, r.part); !ok || !same(got, [][]byte{r.want}) {
				t.Errorf("%d bytes, %d: %v, %v", size, i, got, ok)
			}
		}
	}
}

// P4.1, R4: nil and empty are the same: of a part, of p, of q; and what lies behind an empty list does not fill it.
func TestEmptyIsMissing(t *testing.T) {
	all := several(4, 3)
	p, q := sums(all)
	room := mixed(30, 60)
	for _, nothing := range [][]byte{nil, {}, room[:0], room[7:7]} {
		for _, gone := range choices(4) {
			parts := slices.Clone(all)
			for _, k := range gone {
				parts[k] = nothing
			}
			if got, ok := erase.Solve(3, p, q, parts...); !ok || !same(got, all) {
				t.Errorf("without %v: %v, %v", gone, got, ok)
			}
			if got, ok := erase.Solve(3, nothing, q, parts...); ok != (len(gone) < 2) || ok && !same(got, all) {
				t.Errorf("without %v, and p: %v, %v", gone, got, ok)
			}
			if got, ok := erase.Solve(3, p, nothing, parts...); ok != (len(gone) < 2) || ok && !same(got, all) {
				t.Errorf("without %v, and q: %v, %v", gone, got, ok)
			}
			if got, ok := erase.Solve(3, nothing, nothing, parts...); ok != (len(gone) == 0) || ok && !same(got, all) {
				t.Errorf("without %v, and p, q: %v, %v", gone, got, ok)
			}
		}
	}
}

// P4.1: parts of zeros are there; only those without bytes are not.
func TestZerosAreThere(t *testing.T) {
	zero := []byte{0, 0}
	want := [][]byte{zero, {5, 6}, zero, {7, 8}}
	p, q := sums(want)
	if got, ok := erase.Solve(2, p, q, zero, nil, zero, nil); !ok || !same(got, want) {
		t.Errorf("%v, %v", got, ok)
	}
	if got, ok := erase.Solve(2, zero, zero, nil, nil); !ok || !same(got, [][]byte{zero, zero}) {
		t.Errorf("%v, %v", got, ok)
	}
	if got, ok := erase.Solve(2, nil, zero, zero, nil, zero); !ok || !same(got, [][]byte{zero, zero, zero}) {
		t.Errorf("%v, %v", got, ok)
	}
}

// P4.1, wrong inputs: a size below 1, or none that the lists have.
func TestWrongSize(t *testing.T) {
	one, two := []byte{7}, []byte{7, 8}
	for _, size := range []int{0, -1, -2, -32, math.MinInt} {
		refused(t, "one there", size, nil, nil, one)
		refused(t, "one missing", size, one, nil, nil)
		refused(t, "all missing", size, nil, nil, nil, nil)
		refused(t, "no part", size, nil, nil)
		refused(t, "p, q", size, one, one, one, nil)
	}
	for _, size := range []int{2, 3, 32, math.MaxInt} {
		refused(t, "a part", size, nil, nil, one)
		refused(t, "p", size, one, nil, nil)
		refused(t, "q", size, nil, one, nil)
		refused(t, "p, q", size, one, one, nil, nil)
		refused(t, "nothing there", size, nil, nil, nil)
	}
	refused(t, "a part is longer", 1, nil, nil, two)
	refused(t, "p is longer", 1, two, nil, nil)
}

// P4.1, wrong inputs: one that is there, part, p or q, has another length, be it needed or not.
func TestOtherLength(t *testing.T) {
	for n := 1; n <= 8; n++ {
		all := several(n, 5)
		p, q := sums(all)
		for _, size := range []int{1, 4, 6, 10, 100} {
			odd := mixed(size, 44)
			for k := range n {
				parts := slices.Clone(all)
				parts[k] = odd
				refused(t, "a part", 5, p, q, parts...)
				refused(t, "a part, no p, q", 5, nil, nil, parts...)
				if n > 1 {
					refused(t, "a part, beside a missing one", 5, p, q, without(parts, (k+1)%n)...)
				}
			}
			for _, gone := range choices(n) {
				left := without(all, gone...)
				refused(t, "p", 5, odd, q, left...)
				refused(t, "q", 5, p, odd, left...)
				refused(t, "p alone", 5, odd, nil, left...)
				refused(t, "q alone", 5, nil, odd, left...)
				refused(t, "p and q", 5, odd, odd, left...)
			}
		}
	}
	// All of one length, but of another than size.
	all := several(3, 5)
	p, q := sums(all)
	refused(t, "shorter than size", 6, p, q, all...)
	refused(t, "longer than size", 4, p, q, all...)
	long, _ := within(all[0])
	refused(t, "room behind its length", 6, nil, nil, long)
}

// P4.1, wrong inputs: more are missing than p, q that are there; TestSolveEach has those of two and fewer.
func TestMoreMissing(t *testing.T) {
	for n := 3; n <= 8; n++ {
		all := several(n, 2)
		p, q := sums(all)
		for set := range 1 << n {
			var gone []int
			for k := range n {
				if set>>k&1 != 0 {
					gone = append(gone, k)
				}
			}
			if len(gone) < 3 {
				continue
			}
			refused(t, "p, q", 2, p, q, without(all, gone...)...)
			refused(t, "p", 2, p, nil, without(all, gone...)...)
			refused(t, "q", 2, nil, q, without(all, gone...)...)
			refused(t, "neither", 2, nil, nil, without(all, gone...)...)
		}
	}
}

// P4.1, wrong inputs: no part, and more than eight, missing or not.
func TestWrongNumber(t *testing.T) {
	p, q := []byte{1, 2}, []byte{3, 4}
	refused(t, "no part", 2, nil, nil)
	refused(t, "no part, p, q", 2, p, q)
	refused(t, "no part, an empty list", 2, p, nil, [][]byte{}...)
	for _, n := range []int{9, 10, 255, 256, 1000} {
		all := several(n, 2)
		p, q := sums(all)
		refused(t, "none missing", 2, p, q, all...)
		refused(t, "none missing, no p, q", 2, nil, nil, all...)
		refused(t, "one missing", 2, p, q, without(all, 0)...)
		refused(t, "the last missing", 2, p, q, without(all, n-1)...)
		refused(t, "two missing", 2, p, q, without(all, 0, n-1)...)
		refused(t, "all missing", 2, p, q, make([][]byte, n)...)
	}
}

// R1, R6: no size makes a call run out of memory: what is asked for is no longer than what is there.
func TestGreatSize(t *testing.T) {
	refused(t, "nothing there", math.MaxInt, nil, nil, nil, nil)
	refused(t, "p of a byte", math.MaxInt, []byte{1}, nil, nil)
	all := several(3, 1<<20)
	p, q := sums(all)
	if got, ok := erase.Solve(1<<20, p, q, without(all, 0, 2)...); !ok || !same(got, all) {
		t.Error("long parts")
	}
}

// R4: nothing that is handed in is changed, nor is what lies behind its length read or written.
func TestHandedIn(t *testing.T) {
	whole := several(5, 9)
	sumP, sumQ := sums(whole)
	for _, gone := range choices(5) {
		for there := range 4 {
			var parts, rooms [][]byte
			for _, b := range append(slices.Clone(whole), kept(sumP, there&1 != 0), kept(sumQ, there&2 != 0)) {
				short, long := within(b)
				parts, rooms = append(parts, short), append(rooms, long)
			}
			for _, k := range gone {
				parts[k] = parts[k][:0]
			}
			list := append(slices.Clone(parts[:5]), mixed(9, 7), mixed(9, 8))
			was, wasList := copied(rooms), copied(list)
			got, ok := erase.Solve(9, parts[5], parts[6], list[:5]...)
			if ok && !same(got, whole) {
				t.Errorf("without %v: %v", gone, got)
			}
			if places := erase.Missing(list[:5]...); !slices.Equal(places, gone) {
				t.Errorf("without %v: %v", gone, places)
			}
			if !same(rooms, was) || !same(list, wasList) {
				t.Fatalf("without %v: what was handed in has changed", gone)
			}
		}
	}
}

// R4: each list that is handed out is new memory, also those of parts that are there, and of parts that share theirs.
func TestHandedOut(t *testing.T) {
	a := mixed(8, 1)
	all := [][]byte{a, a, a, a, mixed(8, 2)}
	p, q := sums(all)
	for _, gone := range choices(5) {
		for there := range 4 {
			parts, x, y := without(all, gone...), kept(p, there&1 != 0), kept(q, there&2 != 0)
			was, wasX, wasY := copied(parts), slices.Clone(x), slices.Clone(y)
			first, ok := erase.Solve(8, x, y, parts...)
			second, _ := erase.Solve(8, x, y, parts...)
			if !ok {
				continue
			}
			for k := range first {
				clear(first[k][:cap(first[k])])
				if !same(first[k+1:], all[k+1:]) || !same(second, all) {
					t.Fatalf("without %v: part %d shares memory with another answer", gone, k)
				}
			}
			clear(first)
			if !same(parts, was) || !bytes.Equal(x, wasX) || !bytes.Equal(y, wasY) || !same(second, all) {
				t.Fatalf("without %v: memory is shared with what was handed in", gone)
			}
		}
	}
}

// R4: P of one lost part is that part: the answer is none the less no piece of p, nor of q.
func TestNoPieceOfPAndQ(t *testing.T) {
	a := mixed(8, 1)
	for _, r := range [][2][]byte{{slices.Clone(a), nil}, {nil, slices.Clone(a)}, {slices.Clone(a), slices.Clone(a)}} {
		got, ok := erase.Solve(8, r[0], r[1], nil)
		if !ok || !same(got, [][]byte{a}) {
			t.Fatalf("%v, %v", got, ok)
		}
		clear(got[0])
		for _, x := range r {
			if len(x) != 0 && !bytes.Equal(x, a) {
				t.Error("memory is shared")
			}
		}
	}
}

// R4: Missing hands out new memory too.
func TestMissingHandedOut(t *testing.T) {
	parts := [][]byte{nil, {1}, nil}
	first, second := erase.Missing(parts...), erase.Missing(parts...)
	clear(first[:cap(first)])
	if !slices.Equal(second, []int{0, 2}) || !slices.Equal(erase.Missing(parts...), []int{0, 2}) {
		t.Error("memory is shared")
	}
}

// R4, R5: nothing is kept: a call answers by its arguments as they are now.
func TestNothingKept(t *testing.T) {
	all := several(4, 6)
	p, q := sums(all)
	parts := without(all, 1, 2)
	first, _ := erase.Solve(6, p, q, parts...)
	kept := copied(first)
	all[0][3] ^= 9
	p[5] ^= 1
	got, ok := erase.Solve(6, p, q, parts...)
	if !same(first, kept) {
		t.Error("an answer has changed behind its call")
	}
	gotP, gotQ := sums(got)
	if !ok || !bytes.Equal(got[0], all[0]) || !bytes.Equal(gotP, p) || !bytes.Equal(gotQ, q) || same(got, first) {
		t.Errorf("as the arguments were: %v, %v", got, ok)
	}
	all[0][3] ^= 9
	p[5] ^= 1
	refused(t, "one more missing", 6, p, nil, parts...)
	if got, ok := erase.Solve(6, p, q, parts...); !ok || !same(got, first) {
		t.Error("another answer to the same")
	}
	parts[1] = all[1]
	if got := erase.Missing(parts...); !slices.Equal(got, []int{2}) {
		t.Errorf("Missing as the parts were: %v", got)
	}
}

// R4: parts, p and q may share their memory.
func TestSharedMemory(t *testing.T) {
	a := mixed(12, 3)
	was := slices.Clone(a)
	got, ok := erase.Solve(9, a[1:10], a[2:11], a[:9], nil, a[3:], nil)
	if !ok || !bytes.Equal(got[0], was[:9]) || !bytes.Equal(got[2], was[3:]) {
		t.Fatalf("%v, %v", got, ok)
	}
	if p, q := sums(got); !bytes.Equal(p, was[1:10]) || !bytes.Equal(q, was[2:11]) || !bytes.Equal(a, was) {
		t.Errorf("P %v, Q %v, of %v", p, q, was)
	}
}

// The tests' own field is that of package gf: else they would hold Solve against another Q.
func TestTwice(t *testing.T) {
	for a := range 256 {
		if got := gf.Mul(byte(a), 2); got != twice(byte(a)) {
			t.Fatalf("%d: %d, not %d", a, got, twice(byte(a)))
		}
	}
}
