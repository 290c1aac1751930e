package window_test

import (
	"slices"
	"testing"

	"pintle/window"
)

type win struct {
	in, k, s [2]int
	pad      [4]int
}

var example = win{[2]int{5, 5}, [2]int{3, 3}, [2]int{1, 1}, [4]int{1, 1, 1, 1}}

// P22.1
func TestOut(t *testing.T) {
	for i, x := range []struct {
		w    win
		want [2]int
		ok   bool
	}{
		{example, [2]int{5, 5}, true},
		{win{[2]int{5, 9}, [2]int{3, 2}, [2]int{2, 3}, [4]int{}}, [2]int{2, 3}, true},
		{win{[2]int{64, 64}, [2]int{8, 8}, [2]int{8, 8}, [4]int{7, 7, 7, 7}}, [2]int{9, 9}, true},
		{win{[2]int{1, 1}, [2]int{8, 8}, [2]int{1, 1}, [4]int{7, 7, 0, 0}}, [2]int{1, 1}, true},
		{win{[2]int{1, 1}, [2]int{8, 8}, [2]int{1, 1}, [4]int{0, 7, 7, 0}}, [2]int{1, 1}, true},
		{win{[2]int{1, 1}, [2]int{8, 8}, [2]int{1, 1}, [4]int{6, 7, 0, 7}}, [2]int{}, false},
		{win{[2]int{1, 2}, [2]int{1, 1}, [2]int{8, 8}, [4]int{}}, [2]int{1, 1}, true},
		{win{[2]int{3, 3}, [2]int{4, 4}, [2]int{1, 1}, [4]int{1, 0, 0, 1}}, [2]int{1, 1}, true},
		{win{[2]int{3, 3}, [2]int{4, 4}, [2]int{1, 1}, [4]int{1, 0, 0, 0}}, [2]int{}, false},
	} {
		if got, ok := window.Out(x.w.in, x.w.k, x.w.s, x.w.pad); got != x.want || ok != x.ok {
			t.Error(i, got, ok)
		}
	}
	for i := range 2 {
		for j, change := range []func(w *win, n int){func(w *win, n int) { w.in[i] = n }, func(w *win, n int) { w.k[i] = n }, func(w *win, n int) { w.s[i] = n }, func(w *win, n int) { w.pad[i] = n }, func(w *win, n int) { w.pad[i+2] = n }} {
			wrong := [][]int{{0, -1, 65, 1 << 62}, {0, -1, 1, 9, 8, -1 << 63}, {0, -1, 9, 1 << 62}, {-1, 3, 7, 8, 1 << 62}, {-1, 3, 7, 8, -1 << 63}}[j]
			for _, n := range wrong {
				w := example
				change(&w, n)
				got, ok := window.Out(w.in, w.k, w.s, w.pad)
				inside, too := window.Inside(w.in, w.k, w.s, w.pad)
				taps, three := window.Taps(w.in, w.k, w.s, w.pad, 0, 0)
				if got != [2]int{} || ok || inside != [4]int{} || too || taps != nil || three {
					t.Error(i, j, n, got)
				}
			}
		}
	}
}

func all() []win {
	var l []win
	seed := uint32(1)
	next := func(n int) int { seed = seed*1664525 + 1013904223; return int(seed>>8) % n }
	for len(l) < 1500 {
		w := win{in: [2]int{1 + next(12), 1 + next(12)}, k: [2]int{1 + next(8), 1 + next(8)}, s: [2]int{1 + next(8), 1 + next(4)}}
		for i := range 4 {
			w.pad[i] = next(w.k[i%2])
		}
		if _, ok := window.Out(w.in, w.k, w.s, w.pad); ok {
			l = append(l, w)
		}
	}
	return append(l, example)
}

// P22.2, P22.3, P22.4, P22.5
func TestTapsAndInside(t *testing.T) {
	if got, ok := window.Inside(example.in, example.k, example.s, example.pad); got != [4]int{1, 4, 1, 4} || !ok {
		t.Error(got, ok)
	}
	some, none := 0, 0
	for _, w := range all() {
		out, _ := window.Out(w.in, w.k, w.s, w.pad)
		inside, ok := window.Inside(w.in, w.k, w.s, w.pad)
		if !ok {
			t.Fatal(w)
		}
		full := 0
		for y := range out[0] {
			for x := range out[1] {
				var want [][2]int
				for i := range w.k[0] {
					for j := range w.k[1] {
						row, column := y*w.s[0]-w.pad[0]+i, x*w.s[1]-w.pad[1]+j
						if row >= 0 && row < w.in[0] && column >= 0 && column < w.in[1] {
							want = append(want, [2]int{i, j})
						}
					}
				}
				taps, ok := window.Taps(w.in, w.k, w.s, w.pad, y, x)
				if !slices.Equal(taps, want) || !ok || len(taps) == 0 {
					t.Fatal(w, y, x, taps)
				}
				is := len(taps) == w.k[0]*w.k[1]
				if is {
					full++
				}
				if is != (y >= inside[0] && y < inside[1] && x >= inside[2] && x < inside[3]) {
					t.Fatal(w, y, x, inside)
				}
			}
		}
		if full == 0 && inside != [4]int{} {
			t.Fatal(w, inside)
		}
		if full == 0 {
			none++
		} else {
			some++
		}
		for _, at := range [][2]int{{-1, 0}, {0, -1}, {out[0], 0}, {0, out[1]}, {1 << 62, 0}, {0, -1 << 63}} {
			if taps, ok := window.Taps(w.in, w.k, w.s, w.pad, at[0], at[1]); taps != nil || ok {
				t.Fatal(w, at, taps)
			}
		}
	}
	if some < 100 || none < 100 {
		t.Error(some, none)
	}
}
