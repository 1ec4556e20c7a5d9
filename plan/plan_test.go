package plan_test

import (
	"testing"

	"wattle/api"
	"wattle/plan"
)

// P18.1: the chapter's example.
func TestExample(t *testing.T) {
	if got := plan.Windows(at(5, 3, 1), at(5, 4, 1)); got != 16 {
		t.Errorf("%d", got)
	}
}

// P18.1: pairs whose answers are plain by hand: rows, windows, where each span ends (the one ahead of it ends where it
// begins), and the cursor at each k.
func TestByHand(t *testing.T) {
	for _, r := range []struct {
		name          string
		p             pair
		rows, windows int
		ends, cursors []int
	}{
		{"chunks of 1, a disk more", pair{at(5, 3, 1), at(5, 4, 1)}, 1, 16,
			[]int{3, 6, 9, 12, 15, 18, 21, 24, 27, 30, 33, 36, 39, 42, 45, 48},
			[]int{0, 3, 6, 9, 12, 15, 18, 21, 24, 27, 30, 32, 32, 32, 32, 32, 32}},
		{"chunks of 1, a level and a disk more, as wide", pair{at(5, 3, 1), at(6, 4, 1)}, 1, 16,
			[]int{2, 4, 6, 8, 10, 12, 14, 16, 18, 20, 22, 24, 26, 28, 30, 32},
			[]int{0, 2, 4, 6, 8, 10, 12, 14, 16, 18, 20, 22, 24, 26, 28, 30, 32}},
		{"chunks of 2, a disk more", pair{at(6, 4, 2), at(6, 5, 2)}, 2, 8,
			[]int{6, 12, 18, 24, 30, 36, 42, 48},
			[]int{0, 6, 12, 18, 24, 30, 32, 32, 32}},
		{"chunks of 4, two disks more", pair{at(5, 4, 4), at(5, 6, 4)}, 4, 4,
			[]int{20, 40, 60, 80},
			[]int{0, 20, 40, 48, 48}},
		{"greater chunks alone, 1 to 2", pair{at(5, 3, 1), at(5, 3, 2)}, 2, 8,
			[]int{4, 8, 12, 16, 20, 24, 28, 32},
			[]int{0, 4, 8, 12, 16, 20, 24, 28, 32}},
		{"smaller chunks alone, 2 to 1", pair{at(5, 3, 2), at(5, 3, 1)}, 2, 8,
			[]int{4, 8, 12, 16, 20, 24, 28, 32},
			[]int{0, 4, 8, 12, 16, 20, 24, 28, 32}},
		{"greater chunks alone, 1 to 4", pair{at(6, 5, 1), at(6, 5, 4)}, 4, 4,
			[]int{12, 24, 36, 48},
			[]int{0, 12, 24, 36, 48}},
		{"smaller chunks alone, 4 to 1", pair{at(6, 5, 4), at(6, 5, 1)}, 4, 4,
			[]int{12, 24, 36, 48},
			[]int{0, 12, 24, 36, 48}},
		{"greater chunks, 2 to 4, a disk more", pair{at(5, 7, 2), at(5, 8, 4)}, 4, 4,
			[]int{28, 56, 84, 112},
			[]int{0, 28, 56, 84, 96}},
		{"smaller chunks, 4 to 2, a disk more", pair{at(5, 7, 4), at(5, 8, 2)}, 4, 4,
			[]int{28, 56, 84, 112},
			[]int{0, 28, 56, 84, 96}},
		{"the narrowest to the widest", pair{at(5, 3, 1), at(5, 8, 1)}, 1, 16,
			[]int{7, 14, 21, 28, 35, 42, 49, 56, 63, 70, 77, 84, 91, 98, 105, 112},
			[]int{0, 7, 14, 21, 28, 32, 32, 32, 32, 32, 32, 32, 32, 32, 32, 32, 32}},
		{"the narrowest to the widest of level 6, all at once other", pair{at(5, 3, 2), at(6, 8, 4)}, 4, 4,
			[]int{24, 48, 72, 96},
			[]int{0, 24, 32, 32, 32}},
		{"a level and two disks more, smaller chunks", pair{at(5, 4, 2), at(6, 6, 1)}, 2, 8,
			[]int{8, 16, 24, 32, 40, 48, 56, 64},
			[]int{0, 8, 16, 24, 32, 40, 48, 48, 48}},
	} {
		t.Run(r.name, func(t *testing.T) {
			sizes(t, r.p, r.rows, r.windows)
			from := 0
			for k, to := range r.ends {
				spans(t, r.p, k, from, to)
				from = to
			}
			for k, n := range r.cursors {
				stands(t, r.p, k, n)
			}
			spans(t, r.p, len(r.ends), 0, 0)
			stands(t, r.p, len(r.cursors), 0)
		})
	}
}

// P18.1: each pair that can: how many rows a window has, how many windows there are, each span, the cursor at each k.
func TestEachPair(t *testing.T) {
	for _, p := range pairs(true) {
		rows := rowsOf(p.a, p.b)
		windows := windowsOf(rows)
		sizes(t, p, rows, windows)
		for k := range windows {
			spans(t, p, k, k*rows*width(p.b), (k+1)*rows*width(p.b))
		}
		for k := range windows + 1 {
			n := k * rows * width(p.b)
			if n > capacity(p.a) {
				n = capacity(p.a)
			}
			stands(t, p, k, n)
		}
	}
}

// The pairs that the tests go through are all there are, of each kind.
func TestPairs(t *testing.T) {
	kinds := map[string]int{}
	for _, p := range pairs(true) {
		kind := string(rune('0'+p.a.Level)) + string(rune('0'+p.b.Level))
		kinds[kind]++
		switch {
		case p.a.Chunk < p.b.Chunk:
			kinds[kind+" smaller first"]++
		case p.a.Chunk > p.b.Chunk:
			kinds[kind+" greater first"]++
		default:
			kinds[kind+" alike"]++
		}
		if p.a.Disks == p.b.Disks {
			kinds[kind+" of the same disks"]++
		}
	}
	// By hand: level 5 to 5 has 21 pairs of disks, 6 of them the same; 6 to 6 has 15, 5 of them the same; 5 to 6, with a
	// disk more, 15. Of each there are 9 pairs of chunks, 3 of them alike, 3 the smaller first.
	for kind, want := range map[string]int{
		"55": 21*9 - 6*3, "55 smaller first": 21 * 3, "55 greater first": 21 * 3, "55 alike": 15 * 3, "55 of the same disks": 6 * 6,
		"66": 15*9 - 5*3, "66 smaller first": 15 * 3, "66 greater first": 15 * 3, "66 alike": 10 * 3, "66 of the same disks": 5 * 6,
		"56": 15 * 9, "56 smaller first": 15 * 3, "56 greater first": 15 * 3, "56 alike": 15 * 3, "56 of the same disks": 0,
		"65": 0,
	} {
		if kinds[kind] != want {
			t.Errorf("%s: %d, not %d", kind, kinds[kind], want)
		}
	}
}

// P18.1, by the chapter's words: Rows is the least number, from 1 on, that both Chunks divide, and Windows times Rows are
// all rows there are.
func TestLeast(t *testing.T) {
	for _, p := range pairs(true) {
		least := 1
		for least%p.a.Chunk != 0 || least%p.b.Chunk != 0 {
			least++
		}
		if got := plan.Rows(p.a, p.b); got != least {
			t.Errorf("Rows(%v): %d, not %d", p, got, least)
		}
		if got := plan.Windows(p.a, p.b) * plan.Rows(p.a, p.b); got != api.Rows {
			t.Errorf("%v: %d rows in all", p, got)
		}
	}
}

// P18.1: spans follow one another from 0 on, are of one size, that a backup has room for, and end at b's Capacity.
func TestSpansFollow(t *testing.T) {
	greatest := 0
	for _, p := range pairs(true) {
		next, size := 0, plan.Rows(p.a, p.b)*width(p.b)
		for k := range plan.Windows(p.a, p.b) {
			from, to := plan.Span(p.a, p.b, k)
			if from != next || to-from != size || size < 1 {
				t.Errorf("%v, window %d: %d, %d behind %d, of size %d", p, k, from, to, next, size)
			}
			next = to
		}
		if next != capacity(p.b) {
			t.Errorf("%v: ends at %d", p, next)
		}
		greatest = max(greatest, size)
	}
	if greatest != api.MaxWindow {
		t.Errorf("the greatest window has %d sectors", greatest)
	}
}

// P18.1: the cursor begins at 0, never falls, never passes a's Capacity, and is that at k = Windows; below it is all that
// the windows moved so far have, but what a does not hold.
func TestCursorRises(t *testing.T) {
	for _, p := range pairs(true) {
		last := 0
		stands(t, p, 0, 0)
		for k := range plan.Windows(p.a, p.b) {
			_, to := plan.Span(p.a, p.b, k)
			got := plan.Cursor(p.a, p.b, k+1)
			if got < last || got > capacity(p.a) || got != min(to, capacity(p.a)) {
				t.Errorf("%v, %d windows moved: %d behind %d", p, k+1, got, last)
			}
			last = got
		}
		stands(t, p, plan.Windows(p.a, p.b), capacity(p.a))
	}
}

// R5: the same arguments have the same answers, whatever was asked between, in whichever order.
func TestAgain(t *testing.T) {
	type answer struct{ rows, windows, from, to, cursor int }
	type question struct {
		p pair
		k int
	}
	ask := func(q question) answer {
		from, to := plan.Span(q.p.a, q.p.b, q.k)
		return answer{plan.Rows(q.p.a, q.p.b), plan.Windows(q.p.a, q.p.b), from, to, plan.Cursor(q.p.a, q.p.b, q.k)}
	}
	var l []question
	for i, p := range append(pairs(true), pairs(false)...) {
		for _, k := range []int{0, 1, 2 + i%14, 16, -1} {
			l = append(l, question{p, k})
		}
	}
	first := map[question]answer{}
	for _, q := range l {
		first[q] = ask(q)
	}
	for i := range l {
		for _, q := range []question{l[len(l)-1-i], l[i*7919%len(l)]} {
			if got := ask(q); got != first[q] {
				t.Errorf("%v: %v, then %v", q, first[q], got)
			}
		}
	}
}
