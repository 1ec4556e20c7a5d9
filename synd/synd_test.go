package synd_test

import (
	"bytes"
	"slices"
	"testing"

	"wattle/api"
	"wattle/gf"
	"wattle/synd"
)

// weights are the first n powers of 2, each the double of the one ahead of it, and so none of them by gf.Pow.
func weights(n int) []byte {
	w := make([]byte, n)
	x := byte(1)
	for k := range w {
		w[k] = x
		x = gf.Mul(x, 2)
	}
	return w
}

// weighed is the sum of the parts, each times its weight, column by column.
func weighed(w []byte, parts [][]byte) []byte {
	if len(parts) == 0 {
		return nil
	}
	sum := make([]byte, len(parts[0]))
	for i := range sum {
		for k := range parts {
			sum[i] ^= gf.Mul(parts[k][i], w[k])
		}
	}
	return sum
}

// mixed is n bytes, most of them unlike their neighbours, others for another seed.
func mixed(n, seed int) []byte {
	b := make([]byte, n)
	x := uint32(seed)*2654435761 + uint32(n)
	for i := range b {
		x = x*1664525 + 1013904223
		b[i] = byte(x >> 24)
	}
	return b
}

// several is n parts of size mixed bytes each.
func several(n, size int) [][]byte {
	parts := make([][]byte, n)
	for k := range parts {
		parts[k] = mixed(size, k)
	}
	return parts
}

// copied is another list of the same parts, in memory of its own.
func copied(parts [][]byte) [][]byte {
	c := make([][]byte, len(parts))
	for k := range parts {
		c[k] = slices.Clone(parts[k])
	}
	return c
}

func same(a, b [][]byte) bool {
	return slices.EqualFunc(a, b, bytes.Equal)
}

// within is b with room behind its length; all is b and that room.
func within(b []byte) (short, all []byte) {
	all = append(slices.Clone(b), mixed(40, 99)...)
	return all[:len(b)], all
}

// P3.1: the chapter's example, and sums reckoned by hand.
func TestPKnown(t *testing.T) {
	for i, r := range []struct {
		parts [][]byte
		want  []byte
	}{
		{[][]byte{{1}, {2}, {3}}, []byte{0}},
		{[][]byte{{1}, {2}}, []byte{3}},
		{[][]byte{{255}, {255}}, []byte{0}},
		{[][]byte{{200}, {100}}, []byte{172}},
		{[][]byte{{0x80, 1, 0xF0}, {0x80, 2, 0x0F}, {0x80, 4, 0x3C}, {0, 8, 0}}, []byte{0x80, 15, 0xC3}},
		{[][]byte{{1, 2, 3, 4, 5}, {5, 4, 3, 2, 1}}, []byte{4, 6, 0, 6, 4}},
	} {
		if got := synd.P(r.parts...); !bytes.Equal(got, r.want) {
			t.Errorf("%d: %v, not %v", i, got, r.want)
		}
	}
}

// P3.1: sums reckoned by hand: the first part is taken once, each one behind it twice the one ahead of it.
func TestQKnown(t *testing.T) {
	for i, r := range []struct {
		parts [][]byte
		want  []byte
	}{
		{[][]byte{{1}, {1}}, []byte{3}},
		{[][]byte{{1}, {2}, {3}}, []byte{1 ^ 4 ^ 12}},
		{[][]byte{{3}, {2}, {1}}, []byte{3 ^ 4 ^ 4}},
		{[][]byte{{0}, {128}}, []byte{29}},
		{[][]byte{{128}, {0}}, []byte{128}},
		{[][]byte{{0}, {255}}, []byte{0xE3}},
		{[][]byte{{128}, {128}, {128}, {128}}, []byte{128 ^ 29 ^ 58 ^ 116}},
		{[][]byte{{1, 0, 0}, {0, 1, 0}, {0, 0, 1}}, []byte{1, 2, 4}},
		{[][]byte{{0}, {0}, {0}, {0}, {0}, {0}, {0}, {2}}, []byte{29}},
	} {
		if got := synd.Q(r.parts...); !bytes.Equal(got, r.want) {
			t.Errorf("%d: %v, not %v", i, got, r.want)
		}
	}
}

// P3.1: all numbers of parts that a geometry may have, and more, at many lengths, against sums reckoned another way.
func TestManyParts(t *testing.T) {
	ones := bytes.Repeat([]byte{1}, 2*api.MaxDisks)
	for n := range 2*api.MaxDisks + 1 {
		for size := range api.Sector + 3 {
			parts := several(n, size)
			if got, want := synd.P(parts...), weighed(ones, parts); !bytes.Equal(got, want) {
				t.Errorf("P of %d parts of %d bytes: %v, not %v", n, size, got, want)
			}
			if got, want := synd.Q(parts...), weighed(weights(n), parts); !bytes.Equal(got, want) {
				t.Errorf("Q of %d parts of %d bytes: %v, not %v", n, size, got, want)
			}
		}
	}
}

// P3.1, the edge: no number of parts is too great; behind 255 of them the powers begin anew.
func TestPowersBeginAnew(t *testing.T) {
	w := weights(1025)
	if w[255] != 1 || w[510] != 1 {
		t.Fatal("the powers do not go round")
	}
	for _, n := range []int{9, 100, 254, 255, 256, 257, 300, 509, 510, 511, 512, 1025} {
		parts := several(n, 3)
		if got, want := synd.Q(parts...), weighed(w, parts); !bytes.Equal(got, want) {
			t.Errorf("Q of %d parts: %v, not %v", n, got, want)
		}
		if got, want := synd.P(parts...), weighed(bytes.Repeat([]byte{1}, n), parts); !bytes.Equal(got, want) {
			t.Errorf("P of %d parts: %v, not %v", n, got, want)
		}
	}
	zero := []byte{0, 0, 0}
	parts := slices.Repeat([][]byte{zero}, 600)
	for k := range parts {
		parts[k] = []byte{0, 1, 77}
		if got, want := synd.Q(parts...), []byte{0, w[k], gf.Mul(77, w[k])}; !bytes.Equal(got, want) {
			t.Errorf("Q of part %d alone: %v, not %v", k, got, want)
		}
		if got := synd.P(parts...); !bytes.Equal(got, parts[k]) {
			t.Errorf("P of part %d alone: %v", k, got)
		}
		parts[k] = zero
	}
}

// P3.1, R1: long parts, and a great many.
func TestGreat(t *testing.T) {
	a, b := mixed(1<<20, 1), mixed(1<<20, 2)
	p, q, sum, scaled := synd.P(a, b), synd.Q(a, b), synd.Add(a, b), synd.Scale(a, 29)
	for i := range a {
		if p[i] != a[i]^b[i] || sum[i] != p[i] || q[i] != a[i]^gf.Mul(b[i], 2) || scaled[i] != gf.Mul(a[i], 29) {
			t.Fatalf("byte %d: %d, %d, %d, %d", i, p[i], sum[i], q[i], scaled[i])
		}
	}
	// 255 powers of 2 add up to 0: so do their rounds, and what is left is the first powers.
	parts := slices.Repeat([][]byte{{1}}, 255*400+3)
	if got := synd.Q(parts...); !bytes.Equal(got, []byte{1 ^ 2 ^ 4}) {
		t.Errorf("Q of a great many: %v", got)
	}
	if got := synd.P(parts...); !bytes.Equal(got, []byte{1}) {
		t.Errorf("P of a great many: %v", got)
	}
}

// P3.1: one part is its own P and Q.
func TestOnePart(t *testing.T) {
	for _, size := range []int{1, 2, api.Sector, 1000} {
		a := mixed(size, 5)
		if got := synd.P(a); !bytes.Equal(got, a) {
			t.Errorf("P of one part of %d bytes: %v", size, got)
		}
		if got := synd.Q(a); !bytes.Equal(got, a) {
			t.Errorf("Q of one part of %d bytes: %v", size, got)
		}
	}
}

// P3.1, R4: no parts, and parts without bytes, nil or empty.
func TestNothing(t *testing.T) {
	for i, parts := range [][][]byte{nil, {}, {nil}, {{}}, {nil, {}}, {{}, nil, {}}, make([][]byte, 300)} {
		if p, q := synd.P(parts...), synd.Q(parts...); len(p) != 0 || len(q) != 0 {
			t.Errorf("%d: %v, %v", i, p, q)
		}
	}
	for i, got := range [][]byte{synd.Add(nil, nil), synd.Add([]byte{}, nil), synd.Add([]byte{}, []byte{}), synd.Scale(nil, 7), synd.Scale([]byte{}, 0)} {
		if len(got) != 0 {
			t.Errorf("%d: %v", i, got)
		}
	}
}

// P3.1, wrong inputs: whichever part is the longer or the shorter one, there is nothing.
func TestUnlikeLengths(t *testing.T) {
	for n := 2; n <= api.MaxDisks+1; n++ {
		for k := range n {
			for _, size := range []int{0, 1, 4, 6, 32, 100} {
				parts := several(n, 5)
				parts[k] = mixed(size, k)
				was := copied(parts)
				if p, q := synd.P(parts...), synd.Q(parts...); len(p) != 0 || len(q) != 0 {
					t.Errorf("part %d of %d with %d bytes: %v, %v", k, n, size, p, q)
				}
				if !same(parts, was) {
					t.Error("a part has changed")
				}
			}
		}
	}
	// As many bytes in all, and alike but for one in the midst.
	for i, parts := range [][][]byte{{{1, 2, 3}, {4}}, {{1}, {2, 3}, {4, 5}, {6}}, {nil, {1}}, {{1}, nil}, {{}, {1}, {}}} {
		if p, q := synd.P(parts...), synd.Q(parts...); len(p) != 0 || len(q) != 0 {
			t.Errorf("%d: %v, %v", i, p, q)
		}
	}
	for i, l := range [][2][]byte{{{1, 2}, {3}}, {{1}, {2, 3}}, {nil, {1}}, {{1}, nil}, {{1}, {}}, {mixed(32, 1), mixed(31, 1)}} {
		if got := synd.Add(l[0], l[1]); len(got) != 0 {
			t.Errorf("%d: Add: %v", i, got)
		}
	}
}

// P3.1: Add of each two bytes, and of each length.
func TestAdd(t *testing.T) {
	a, b := make([]byte, 65536), make([]byte, 65536)
	for i := range a {
		a[i], b[i] = byte(i>>8), byte(i)
	}
	sum := synd.Add(a, b)
	if len(sum) != len(a) {
		t.Fatalf("%d bytes", len(sum))
	}
	for i, got := range sum {
		if want := a[i] ^ b[i]; got != want {
			t.Fatalf("%d + %d: %d, not %d", a[i], b[i], got, want)
		}
	}
	if got := synd.Add([]byte{1, 0xF0, 7}, []byte{3, 0x3C, 7}); !bytes.Equal(got, []byte{2, 0xCC, 0}) {
		t.Errorf("%v", got)
	}
	for size := range 100 {
		x, y := mixed(size, 1), mixed(size, 2)
		if got := synd.Add(x, y); !bytes.Equal(got, synd.Add(y, x)) || !bytes.Equal(synd.Add(got, y), x) {
			t.Errorf("%d bytes: %v", size, got)
		}
	}
}

// P3.1: Scale of each byte by each byte, 0 and 1 among them, and of each length.
func TestScale(t *testing.T) {
	a := make([]byte, 256)
	for i := range a {
		a[i] = byte(i)
	}
	for f := range 256 {
		got := synd.Scale(a, byte(f))
		if len(got) != len(a) {
			t.Fatalf("%d bytes", len(got))
		}
		for i := range a {
			if want := gf.Mul(byte(i), byte(f)); got[i] != want {
				t.Fatalf("%d times %d: %d, not %d", i, f, got[i], want)
			}
		}
	}
	if got := synd.Scale([]byte{128, 1, 0}, 2); !bytes.Equal(got, []byte{29, 2, 0}) {
		t.Errorf("%v", got)
	}
	for size := range 100 {
		x := mixed(size, 1)
		if !bytes.Equal(synd.Scale(x, 1), x) || !bytes.Equal(synd.Scale(x, 0), make([]byte, size)) {
			t.Errorf("%d bytes", size)
		}
	}
}

// R4: nothing that is handed in is changed, nor is what lies behind its length read or written.
func TestHandedIn(t *testing.T) {
	var parts, all [][]byte
	for _, b := range several(5, 9) {
		short, long := within(b)
		parts, all = append(parts, short), append(all, long)
	}
	list := append(slices.Clone(parts), mixed(9, 7), mixed(9, 8))
	was, wasList := copied(all), copied(list)
	handed := list[:5]
	for i, got := range [][]byte{synd.P(handed...), synd.Q(handed...), synd.Add(parts[0], parts[1]), synd.Scale(parts[0], 3)} {
		if len(got) != 9 {
			t.Errorf("%d: %d bytes", i, len(got))
		}
	}
	if !bytes.Equal(synd.P(handed...), weighed([]byte{1, 1, 1, 1, 1}, several(5, 9))) || !bytes.Equal(synd.Q(handed...), weighed([]byte{1, 2, 4, 8, 16}, several(5, 9))) {
		t.Error("read behind the list of parts")
	}
	if !same(all, was) || !same(list, wasList) {
		t.Error("what was handed in has changed")
	}
	for k := range parts {
		if &list[k][0] != &parts[k][0] {
			t.Errorf("part %d is another list", k)
		}
	}
	// Room behind its length does not make a part as long as the others.
	if len(synd.P(parts[0], parts[1][:8])) != 0 || len(synd.Q(parts[0][:8], parts[1])) != 0 || len(synd.Add(parts[0][:8], parts[1])) != 0 {
		t.Error("read behind a part")
	}
}

// R4: each answer is new memory, also where it is as what was handed in.
func TestHandedOut(t *testing.T) {
	a, zero := mixed(32, 1), make([]byte, 32)
	was := slices.Clone(a)
	answers := func() [][]byte {
		return [][]byte{synd.P(a), synd.Q(a), synd.P(a, zero), synd.P(zero, a), synd.Q(a, zero), synd.Add(a, zero), synd.Add(zero, a), synd.Scale(a, 1)}
	}
	first, second := answers(), answers()
	for i := range first {
		if !bytes.Equal(first[i], was) || !bytes.Equal(second[i], was) {
			t.Errorf("%d: %v, %v", i, first[i], second[i])
		}
		clear(first[i][:cap(first[i])])
		if !bytes.Equal(a, was) || !bytes.Equal(second[i], was) {
			t.Fatalf("%d: memory is shared", i)
		}
	}
	if !bytes.Equal(zero, make([]byte, 32)) {
		t.Error("the zeros have changed")
	}
}

// R4, R5: nothing is kept: a call answers by its arguments as they are now.
func TestNothingKept(t *testing.T) {
	a, b := mixed(8, 1), mixed(8, 2)
	p, q := synd.P(a, b), synd.Q(a, b)
	wasP, wasQ := slices.Clone(p), slices.Clone(q)
	b[3] ^= 1
	wasP[3] ^= 1
	if got := synd.P(a, b); !bytes.Equal(got, wasP) || bytes.Equal(got, p) {
		t.Error("P of the part as it was")
	}
	wasQ[3] ^= 2
	if got := synd.Q(a, b); !bytes.Equal(got, wasQ) || bytes.Equal(got, q) {
		t.Error("Q of the part as it was")
	}
	b[3] ^= 1
	if !bytes.Equal(synd.P(a, b), p) || !bytes.Equal(synd.Q(a, b), q) {
		t.Error("another answer to the same")
	}
}

// R4: parts may share their memory.
func TestSharedParts(t *testing.T) {
	a := mixed(10, 3)
	was := slices.Clone(a)
	l, r := was[:9], was[1:]
	if got := synd.P(a[:9], a[1:]); !bytes.Equal(got, weighed([]byte{1, 1}, [][]byte{l, r})) {
		t.Errorf("P: %v", got)
	}
	if got := synd.Q(a[:9], a[1:], a[:9]); !bytes.Equal(got, weighed([]byte{1, 2, 4}, [][]byte{l, r, l})) {
		t.Errorf("Q: %v", got)
	}
	if got := synd.Add(a, a); !bytes.Equal(got, make([]byte, 10)) || !bytes.Equal(a, was) {
		t.Errorf("Add: %v", got)
	}
}
