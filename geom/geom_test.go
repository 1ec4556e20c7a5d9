package geom_test

import (
	"math"
	"testing"

	"wattle/api"
	"wattle/geom"
)

// known is what is known of a level on so many disks, at any chunk.
type known struct{ level, disks, budget, width, capacity int }

// all is each level on each number of disks that may be, reckoned by hand.
var all = []known{
	{5, 3, 1, 2, 32},
	{5, 4, 1, 3, 48},
	{5, 5, 1, 4, 64},
	{5, 6, 1, 5, 80},
	{5, 7, 1, 6, 96},
	{5, 8, 1, 7, 112},
	{6, 4, 2, 2, 32},
	{6, 5, 2, 3, 48},
	{6, 6, 2, 4, 64},
	{6, 7, 2, 5, 80},
	{6, 8, 2, 6, 96},
}

var chunks = []int{1, 2, 4}

// odd is numbers at, about and far from those that may be; some are one that may be, but for digits that a smaller number would lose.
var odd = []int{
	-1, -2, -4, -5, -6, -8, 0, 1, 2, 3, 4, 5, 6, 7, 8, 9, 10, 12, 16, 32, 52, 255, 256,
	1<<8 + 1, 1<<8 + 2, 1<<8 + 4, 1<<8 + 5, 1<<8 + 6, 1<<16 + 2, 1<<16 + 4, 1<<16 + 5, 1<<32 + 1, 1<<32 + 2, 1<<32 + 4, 1<<32 + 5, 1<<32 + 6,
	math.MaxInt32, math.MinInt32, math.MaxInt, math.MaxInt - 1, math.MinInt, math.MinInt + 1, math.MinInt + 4, math.MinInt + 5, math.MinInt + 6,
}

func at(level, disks, chunk int) api.Geom {
	return api.Geom{Level: level, Disks: disks, Chunk: chunk}
}

// good is each geometry that may be.
func good() []api.Geom {
	var l []api.Geom
	for _, k := range all {
		for _, c := range chunks {
			l = append(l, at(k.level, k.disks, c))
		}
	}
	return l
}

// bad is each geometry of odd numbers that is none of the good ones.
func bad() []api.Geom {
	may := map[api.Geom]bool{}
	for _, g := range good() {
		may[g] = true
	}
	var l []api.Geom
	for _, level := range odd {
		for _, disks := range odd {
			for _, chunk := range odd {
				if g := at(level, disks, chunk); !may[g] {
					l = append(l, g)
				}
			}
		}
	}
	return l
}

// refused fails the test unless g is one that may not be, with nothing beside it.
func refused(t *testing.T, g api.Geom) {
	t.Helper()
	if e := geom.Check(g); e != api.ErrArg {
		t.Errorf("Check(%v): %d", g, e)
	}
	if b, w, c := geom.Budget(g), geom.Width(g), geom.Capacity(g); b != 0 || w != 0 || c != 0 {
		t.Errorf("of %v: budget %d, width %d, capacity %d", g, b, w, c)
	}
}

// P7.1: the chapter's example.
func TestExample(t *testing.T) {
	for _, c := range chunks {
		if got := geom.Capacity(at(5, 3, c)); got != 32 {
			t.Errorf("chunk %d: %d", c, got)
		}
	}
}

// P7.1: each geometry that may be: that it may, what it bears, how wide it is, what it holds.
func TestEach(t *testing.T) {
	for _, k := range all {
		for _, c := range chunks {
			g := at(k.level, k.disks, c)
			if e := geom.Check(g); e != api.OK {
				t.Errorf("Check(%v): %d", g, e)
			}
			if got := geom.Budget(g); got != k.budget {
				t.Errorf("Budget(%v): %d, not %d", g, got, k.budget)
			}
			if got := geom.Width(g); got != k.width {
				t.Errorf("Width(%v): %d, not %d", g, got, k.width)
			}
			if got := geom.Capacity(g); got != k.capacity {
				t.Errorf("Capacity(%v): %d, not %d", g, got, k.capacity)
			}
		}
	}
}

// P7.1, by the chapter's words: Width is Disks less Budget, Capacity is Width times api.Rows.
func TestByWords(t *testing.T) {
	for _, g := range append(good(), at(5, api.MaxDisks, 1), at(6, api.MaxDisks, 4)) {
		if geom.Width(g) != g.Disks-geom.Budget(g) || geom.Capacity(g) != geom.Width(g)*api.Rows {
			t.Errorf("%v: %d, %d, %d", g, geom.Budget(g), geom.Width(g), geom.Capacity(g))
		}
	}
}

// P7.1, the edges: the fewest and the most disks of each level, and one fewer and one more.
func TestFewestAndMost(t *testing.T) {
	for _, c := range chunks {
		for _, r := range []struct{ level, fewest int }{{5, 3}, {6, 4}} {
			for _, d := range []int{r.fewest, api.MaxDisks} {
				if e := geom.Check(at(r.level, d, c)); e != api.OK {
					t.Errorf("level %d, %d disks, chunk %d: %d", r.level, d, c, e)
				}
			}
			refused(t, at(r.level, r.fewest-1, c))
			refused(t, at(r.level, api.MaxDisks+1, c))
		}
	}
}

// P7.1, R1, wrong inputs, named one by one: levels, disks, chunks that there are not, in geometries that are right but for that.
func TestWrong(t *testing.T) {
	refused(t, api.Geom{})
	for _, n := range odd {
		if n != 5 && n != 6 {
			refused(t, at(n, 5, 1))
			refused(t, at(n, api.MaxDisks, 4))
		}
		if n < 3 || n > 8 {
			refused(t, at(5, n, 2))
		}
		if n < 4 || n > 8 {
			refused(t, at(6, n, 2))
		}
		if n != 1 && n != 2 && n != 4 {
			refused(t, at(5, 4, n))
			refused(t, at(6, 4, n))
		}
	}
}

// P7.1, R1: all geometries of odd numbers but those that may be.
func TestWrongAll(t *testing.T) {
	for _, g := range bad() {
		refused(t, g)
		if t.Failed() {
			return
		}
	}
}

// P7.1: pairs whose answer is plain by hand.
func TestCanKnown(t *testing.T) {
	for _, r := range []struct {
		name string
		a, b api.Geom
		want bool
	}{
		{"alike, level 5", at(5, 3, 1), at(5, 3, 1), false},
		{"alike, level 6", at(6, 8, 4), at(6, 8, 4), false},
		{"a disk more", at(5, 3, 1), at(5, 4, 1), true},
		{"a disk more, level 6", at(6, 4, 2), at(6, 5, 2), true},
		{"all the disks there can be", at(5, 3, 4), at(5, 8, 4), true},
		{"a disk fewer", at(5, 4, 1), at(5, 3, 1), false},
		{"a disk fewer, level 6", at(6, 5, 1), at(6, 4, 1), false},
		{"a greater chunk alone", at(5, 3, 1), at(5, 3, 2), true},
		{"the greatest chunk alone", at(6, 4, 1), at(6, 4, 4), true},
		{"a smaller chunk alone", at(5, 8, 4), at(5, 8, 1), true},
		{"a smaller chunk alone, level 6", at(6, 8, 2), at(6, 8, 1), true},
		{"more disks, a smaller chunk", at(5, 3, 4), at(5, 5, 1), true},
		{"fewer disks, a greater chunk", at(5, 5, 1), at(5, 4, 4), false},
		{"a higher level alone: not as wide", at(5, 4, 1), at(6, 4, 1), false},
		{"a higher level alone, most disks", at(5, 8, 2), at(6, 8, 2), false},
		{"a higher level, another chunk: not as wide", at(5, 5, 1), at(6, 5, 2), false},
		{"a higher level and a disk: as wide", at(5, 3, 1), at(6, 4, 1), true},
		{"a higher level and a disk, most disks", at(5, 7, 1), at(6, 8, 4), true},
		{"a higher level and two disks: wider", at(5, 4, 2), at(6, 6, 1), true},
		{"a higher level, fewer disks", at(5, 5, 1), at(6, 4, 1), false},
		{"a lower level alone: wider", at(6, 5, 1), at(5, 5, 1), false},
		{"a lower level, more disks", at(6, 4, 1), at(5, 8, 1), false},
		{"a lower level, as wide", at(6, 5, 1), at(5, 4, 1), false},
	} {
		if got := geom.Can(r.a, r.b); got != r.want {
			t.Errorf("%s: %v, %v: %v", r.name, r.a, r.b, got)
		}
	}
}

// P7.1: each pair of geometries that may be, held against the chapter's words, with widths reckoned by hand.
func TestCanAll(t *testing.T) {
	can := 0
	for _, a := range all {
		for _, b := range all {
			for _, ca := range chunks {
				for _, cb := range chunks {
					alike := a == b && ca == cb
					want := !alike && !(b.disks < a.disks) && !(b.level < a.level) && !(b.width < a.width)
					got := geom.Can(at(a.level, a.disks, ca), at(b.level, b.disks, cb))
					if got != want {
						t.Errorf("%v chunk %d, %v chunk %d: %v", a, ca, b, cb, got)
					}
					if got {
						can++
					}
				}
			}
		}
	}
	// By hand, 9 pairs of chunks each: level 5 to 5: 21 pairs of disks, less 18 alike; 6 to 6: 15, less 15; 5 to 6: 15 with a disk more.
	if want := 21*9 - 18 + 15*9 - 15 + 15*9; can != want {
		t.Errorf("%d pairs, not %d", can, want)
	}
}

// P7.1: what follows for an array that changes: no sector and no disk that may be lost goes, and a way back is a change of chunks alone.
func TestCanKeeps(t *testing.T) {
	for _, a := range good() {
		for _, b := range good() {
			if !geom.Can(a, b) {
				continue
			}
			if geom.Capacity(b) < geom.Capacity(a) || geom.Budget(b) < geom.Budget(a) {
				t.Errorf("%v, %v: less", a, b)
			}
			if geom.Can(b, a) != (a.Level == b.Level && a.Disks == b.Disks) {
				t.Errorf("%v, %v: and back", a, b)
			}
		}
	}
}

// P7.1, R1, wrong inputs: either geometry of a pair may not be, whatever the other is.
func TestCanWrong(t *testing.T) {
	right, wrong := good(), bad()
	for i, g := range wrong {
		for _, h := range right {
			if geom.Can(g, h) || geom.Can(h, g) {
				t.Fatalf("%v, %v: one of them may not be", g, h)
			}
		}
		next := wrong[(i+1)%len(wrong)]
		if geom.Can(g, g) || geom.Can(g, next) || geom.Can(next, g) {
			t.Fatalf("%v, %v: neither may be", g, next)
		}
	}
}

// P7.1, wrong inputs: a right geometry made wrong in one number alone, on either side of a pair that could be but for that.
func TestCanOneWrong(t *testing.T) {
	low, high := at(5, 3, 1), at(6, 8, 4)
	if !geom.Can(low, high) {
		t.Fatal("right on both sides")
	}
	for _, g := range []api.Geom{at(4, 3, 1), at(0, 3, 1), at(-5, 3, 1), at(5, 2, 1), at(5, 0, 1), at(5, -3, 1), at(5, 3, 0), at(5, 3, 3), at(5, 3, -1), at(5, 3, 8)} {
		if geom.Can(g, high) {
			t.Errorf("from %v", g)
		}
	}
	for _, g := range []api.Geom{at(7, 8, 4), at(math.MaxInt, 8, 4), at(6, 9, 4), at(6, math.MaxInt, 4), at(6, 8, 3), at(6, 8, 5), at(6, 8, 8), at(6, 8, 0), at(6, 8, -4), at(6, 8, math.MaxInt)} {
		if geom.Can(low, g) {
			t.Errorf("to %v", g)
		}
	}
}

// R5: the same arguments have the same answers, whatever was asked between.
func TestAgain(t *testing.T) {
	type answer struct {
		check                   api.Errno
		budget, width, capacity int
		can, canBack            bool
	}
	ask := func(g api.Geom) answer {
		h := at(6, 6, 2)
		return answer{geom.Check(g), geom.Budget(g), geom.Width(g), geom.Capacity(g), geom.Can(g, h), geom.Can(h, g)}
	}
	l := append(good(), api.Geom{}, at(5, 9, 1), at(7, 4, 1), at(math.MinInt, math.MinInt, math.MinInt))
	first := map[api.Geom]answer{}
	for _, g := range l {
		first[g] = ask(g)
	}
	for i := range l {
		if g := l[len(l)-1-i]; ask(g) != first[g] {
			t.Errorf("%v: %v, then %v", g, first[g], ask(g))
		}
	}
}
