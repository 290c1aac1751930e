package arena_test

import (
	"slices"
	"testing"

	"pintle/api"
	"pintle/arena"
)

func block(size, from, to int) api.Block { return api.Block{Size: size, From: from, To: to} }

// P30.1
func TestMeet(t *testing.T) {
	const lo, hi = -1 << 63, 1<<63 - 1
	for i, x := range []struct {
		a, b api.Block
		want bool
	}{
		{block(1, 0, 1), block(1, 1, 2), true}, {block(1, 0, 1), block(1, 2, 3), false}, {block(1, 0, 9), block(1, 4, 5), true}, {block(1, 3, 3), block(1, 3, 3), true}, {block(1, lo, hi), block(1, hi, hi), true}, {block(1, 5, 4), block(1, 0, 9), false}, {block(1, 5, 4), block(1, 5, 4), false}, {block(-5, 1, 2), block(0, 2, 2), true}, {block(1, lo, lo), block(1, hi, hi), false},
	} {
		if arena.Meet(x.a, x.b) != x.want || arena.Meet(x.b, x.a) != x.want {
			t.Error(i)
		}
	}
}

// P30.1, P30.2
func TestFit(t *testing.T) {
	for i, x := range []struct {
		l     []api.Block
		where []int
		all   int
	}{
		{nil, nil, 0}, {[]api.Block{block(8, 0, 1), block(4, 1, 2), block(8, 2, 3)}, []int{0, 8, 0}, 12}, {[]api.Block{block(5, 0, 1)}, []int{0}, 8}, {[]api.Block{block(1<<20, -5, -5)}, []int{0}, 1 << 20},
		// The greatest first; of those alike the one with the least From; then the one that stands first.
		{[]api.Block{block(4, 0, 9), block(8, 0, 9)}, []int{8, 0}, 12}, {[]api.Block{block(8, 3, 9), block(8, 0, 9)}, []int{8, 0}, 16}, {[]api.Block{block(8, 0, 9), block(8, 0, 3)}, []int{0, 8}, 16}, {[]api.Block{block(7, 0, 9), block(8, 1, 9)}, []int{8, 0}, 16},
		// The least gap that is large enough; of those alike the first; a larger one, if the least one is too small.
		{[]api.Block{block(40, 0, 1), block(36, 1, 5), block(32, 0, 9), block(12, 4, 4), block(8, 5, 9), block(4, 3, 9)}, []int{0, 40, 76, 0, 0, 12}, 108},
		{[]api.Block{block(16, 0, 0), block(12, 0, 9), block(8, 0, 0), block(4, 0, 9), block(4, 5, 5)}, []int{0, 16, 28, 36, 28}, 40},
		{[]api.Block{block(100, 0, 0), block(96, 0, 9), block(92, 0, 0), block(88, 0, 9), block(84, 0, 0), block(80, 0, 9), block(79, 5, 5), block(78, 5, 9), block(10, 5, 5)}, []int{0, 100, 196, 288, 376, 460, 376, 196, 276}, 540},
	} {
		kept := slices.Clone(x.l)
		where, all, ok := arena.Fit(x.l)
		if !slices.Equal(where, x.where) || all != x.all || !ok || !slices.Equal(kept, x.l) {
			t.Error(i, where, all, ok)
		}
	}
	many := slices.Repeat([]api.Block{block(1, 0, 0)}, 100)
	if _, all, ok := arena.Fit(many); all != 400 || !ok || arena.Least(many) != 400 {
		t.Error("100 blocks", all, ok)
	}
	for i, l := range [][]api.Block{append(many, block(1, 0, 0)), {block(0, 0, 0)}, {block(-4, 0, 0)}, {block(1<<20+1, 0, 0)}, {block(4, 1, 0)}, {block(4, 0, 0), block(1<<63-1, 0, 0)}, {block(4, 1<<63-1, -1<<63)}} {
		where, all, ok := arena.Fit(l)
		if where != nil || all != 0 || ok || arena.Least(l) != 0 {
			t.Error(i, where, all, ok)
		}
	}
}

// P30.3
func TestLeast(t *testing.T) {
	for i, x := range []struct {
		l    []api.Block
		want int
	}{{nil, 0}, {[]api.Block{block(8, 0, 1), block(4, 1, 2), block(8, 2, 3)}, 12}, {[]api.Block{block(1, 0, 1), block(1, 1, 2), block(9, 1, 1), block(5, 2, 3)}, 20}, {[]api.Block{block(3, -1<<63, 1<<63-1), block(3, 1<<63-1, 1<<63-1)}, 8}} {
		if got := arena.Least(x.l); got != x.want {
			t.Error(i, got)
		}
	}
}

// slow lays blocks by trying each place that is the end of another one.
func slow(l []api.Block) []int {
	up := func(n int) int { return (n + 3) &^ 3 }
	where := make([]int, len(l))
	done := make([]bool, len(l))
	for range l {
		next := -1
		for i, b := range l {
			if !done[i] && (next < 0 || b.Size > l[next].Size || b.Size == l[next].Size && b.From < l[next].From) {
				next = i
			}
		}
		used := map[int]int{}
		top := 0
		for i := range l {
			if done[i] && arena.Meet(l[i], l[next]) {
				top = max(top, where[i]+up(l[i].Size))
				for k := range up(l[i].Size) {
					used[where[i]+k]++
				}
			}
		}
		best, room := top, 1<<62
		for at := 0; at < top; at++ {
			if used[at] > 0 || at > 0 && used[at-1] == 0 {
				continue
			}
			end := at
			for end < top && used[end] == 0 {
				end++
			}
			if end-at >= up(l[next].Size) && end-at < room {
				best, room = at, end-at
			}
		}
		where[next], done[next] = best, true
	}
	return where
}

// P30.2, P30.4, P30.5
func TestByChance(t *testing.T) {
	seed := uint32(7)
	next := func(n int) int { seed = seed*1664525 + 1013904223; return int(seed>>8) % n }
	for range 600 {
		var l []api.Block
		sum := 0
		for range 1 + next(16) {
			from := next(12)
			l = append(l, block(1+next(40), from, from+next(5)))
			sum += (l[len(l)-1].Size + 3) &^ 3
		}
		where, all, ok := arena.Fit(l)
		if !ok || !slices.Equal(where, slow(l)) {
			t.Fatal(l, where, slow(l))
		}
		if all < arena.Least(l) || all > sum {
			t.Fatal(all, arena.Least(l), sum)
		}
		end := 0
		for i, a := range l {
			end = max(end, where[i]+(a.Size+3)&^3)
			for k, b := range l[:i] {
				if arena.Meet(a, b) && where[i] < where[k]+b.Size && where[k] < where[i]+a.Size {
					t.Fatal("in common", l, where)
				}
			}
		}
		if end != all {
			t.Fatal(end, all)
		}
	}
}
