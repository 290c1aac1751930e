package alloc_test

import (
	"slices"
	"testing"

	"pintle/alloc"
	"pintle/api"
	"pintle/lir"
)

var end = api.Lop{Op: api.LEnd}

func set(d int) api.Lop  { return api.Lop{Op: api.LSet, D: d} }
func loop(d int) api.Lop { return api.Lop{Op: api.LLoop, D: d, Imm: 3} }

func weights(l map[int]int) []int {
	w := make([]int, api.MaxVars)
	for v, n := range l {
		w[v] = n
	}
	return w
}

// P17.1
func TestWeigh(t *testing.T) {
	var nest []api.Lop
	for d := range 10 {
		nest = append(nest, loop(d))
	}
	nest = append(nest, set(20), set(21), set(21))
	nest = append(nest, slices.Repeat([]api.Lop{end}, 10)...)
	deep := map[int]int{20: 1000000000, 21: 1000000000, 9: 1000000000}
	for d, n := 0, 8; d < 9; d, n = d+1, n*8 {
		deep[d] = 2 * n
	}
	many := append([]api.Lop{loop(0), loop(1), loop(2), loop(3), loop(4), loop(5), loop(6), loop(7), loop(8)}, slices.Repeat([]api.Lop{set(20)}, 19000)...)
	many = append(many, slices.Repeat([]api.Lop{end}, 9)...)
	for i, x := range []struct {
		l    []api.Lop
		want map[int]int
	}{
		{[]api.Lop{loop(1), {Op: api.LAddi, Imm: 5}, end}, map[int]int{0: 16, 1: 16}},
		{nil, nil}, {[]api.Lop{set(5), {Op: api.LAdd, D: 5, A: 5, B: 5}, {Op: api.LStore8, A: 5, B: 63}}, map[int]int{5: 5, 63: 1}},
		{[]api.Lop{set(0), loop(1), set(0), loop(2), set(0), end, set(3), end, set(3)}, map[int]int{0: 1 + 8 + 64, 1: 16, 2: 128, 3: 9}},
		{[]api.Lop{set(0), {}}, nil}, {[]api.Lop{set(0), end}, nil}, {nest, deep},
	} {
		if got := alloc.Weigh(x.l); !slices.Equal(got, weights(x.want)) {
			t.Error(i, got)
		}
	}
	if got := alloc.Weigh(many); got[20] != 1000000000 {
		t.Error(got)
	}
}

// P17.2, P17.3
func TestHomes(t *testing.T) {
	homes, slots, err := alloc.Homes([]api.Lop{loop(1), {Op: api.LAddi, Imm: 5}, end})
	if homes[0] != (api.Home{Reg: 5}) || homes[1] != (api.Home{Reg: 6}) || slots != 0 || err != api.OK || len(homes) != 64 {
		t.Error(homes, slots, err)
	}
	for n := range 65 {
		var l []api.Lop
		// Of n variables, from 63 down, those that are multiples of three weigh more.
		for v := 63; v > 63-n; v-- {
			l = append(l, set(v))
			if v%3 == 0 {
				l = append(l, set(v))
			}
		}
		homes, slots, err := alloc.Homes(l)
		if err != api.OK || slots != max(0, n-20) {
			t.Fatal(n, slots, err)
		}
		at := 0
		for _, heavy := range []bool{true, false} {
			for v := range 64 {
				if (v%3 == 0) != heavy || v <= 63-n {
					continue
				}
				want := api.Home{Reg: 5 + at}
				if at >= 20 {
					want = api.Home{Slot: at - 20}
				}
				if homes[v] != want {
					t.Error(n, v, homes[v], want)
				}
				at++
			}
		}
		seen := map[api.Home]int{}
		for _, v := range lir.Vars(l) {
			seen[homes[v]]++
		}
		if len(seen) != n {
			t.Error("two have one home", n)
		}
		for v := range 64 - n {
			if homes[v] != (api.Home{}) {
				t.Error(n, v, homes[v])
			}
		}
	}
	for i, x := range []struct {
		l   []api.Lop
		err api.Errno
	}{{[]api.Lop{{}}, api.ErrArg}, {[]api.Lop{end}, api.ErrForm}, {make([]api.Lop, 20001), api.ErrLong}} {
		if homes, slots, err := alloc.Homes(x.l); homes != nil || slots != 0 || err != x.err {
			t.Error(i, homes, slots, err)
		}
	}
	if homes, slots, err := alloc.Homes(nil); !slices.Equal(homes, make([]api.Home, 64)) || slots != 0 || err != api.OK {
		t.Error(homes, slots, err)
	}
}
