package lir_test

import (
	"slices"
	"testing"

	"pintle/api"
	"pintle/lir"
)

// has tells what an operation has: d, a, b, and the bounds of its number.
func has(op int) (string, int32, int32) {
	const lo, hi = -1 << 31, 1<<31 - 1
	switch op {
	case api.LSet:
		return "d", lo, hi
	case api.LMove:
		return "da", 0, 0
	case api.LAddi, api.LLoad8, api.LLoad8u, api.LLoad16, api.LLoad32:
		return "da", lo, hi
	case api.LShl, api.LShr, api.LSar:
		return "da", 0, 31
	case api.LStore8, api.LStore32:
		return "ab", lo, hi
	case api.LLoop:
		return "d", 1, 100000
	case api.LEnd:
		return "", 0, 0
	}
	return "dab", 0, 0
}

// P15.1, P15.4
func TestSteps(t *testing.T) {
	for op := api.LSet; op <= api.Lops; op++ {
		vars, lo, hi := has(op)
		x := api.Lop{Op: op, Imm: hi}
		var reads []int
		writes := -1
		for _, v := range vars {
			switch v {
			case 'd':
				x.D, writes = 63, 63
			case 'a':
				x.A, reads = 7, append(reads, 7)
			case 'b':
				x.B, reads = 7, append(reads, 7)
			}
		}
		good := func(x api.Lop) {
			t.Helper()
			if err := lir.Check([]api.Lop{x}); err != api.OK && op < api.LLoop || err != api.ErrForm && op >= api.LLoop {
				t.Error(x, err)
			}
		}
		wrong := func(x api.Lop) {
			t.Helper()
			if err := lir.Check([]api.Lop{x}); err != api.ErrArg || len(lir.Reads(x)) != 0 || lir.Writes(x) != -1 || len(lir.Vars([]api.Lop{x})) != 0 {
				t.Error(x, err)
			}
		}
		good(x)
		if !slices.Equal(lir.Reads(x), reads) || lir.Writes(x) != writes {
			t.Error(x, lir.Reads(x), lir.Writes(x))
		}
		for _, f := range []struct {
			name rune
			set  func(x *api.Lop, n int)
		}{{'d', func(x *api.Lop, n int) { x.D = n }}, {'a', func(x *api.Lop, n int) { x.A = n }}, {'b', func(x *api.Lop, n int) { x.B = n }}} {
			for _, n := range []int{-1, 0, 1, 63, 64, 1 << 40, -1 << 63} {
				y := x
				f.set(&y, n)
				if n == 0 || slices.Contains([]rune(vars), f.name) && n > 0 && n < 64 {
					good(y)
				} else {
					wrong(y)
				}
			}
		}
		x.Imm = lo
		good(x)
		if lo > -1<<31 {
			x.Imm = lo - 1
			wrong(x)
			x.Imm = hi + 1
			wrong(x)
		}
	}
	for _, op := range []int{0, -1, api.Lops + 1, 1 << 40} {
		if x := (api.Lop{Op: op}); lir.Check([]api.Lop{x}) != api.ErrArg || lir.Reads(x) != nil || lir.Writes(x) != -1 {
			t.Error(op)
		}
	}
}

func loop(d int, n int32) api.Lop { return api.Lop{Op: api.LLoop, D: d, Imm: n} }
func set(d int) api.Lop           { return api.Lop{Op: api.LSet, D: d} }
func nest(from, n int) []api.Lop {
	var l []api.Lop
	for i := range n {
		l = append(l, loop(from+i, 2))
	}
	return append(l, slices.Repeat([]api.Lop{end}, n)...)
}

var end = api.Lop{Op: api.LEnd}

// P15.2, P15.5
func TestEnds(t *testing.T) {
	for i, x := range []struct {
		l    []api.Lop
		want []int
		ok   bool
	}{
		{nil, nil, true}, {[]api.Lop{loop(1, 3), set(0), end}, []int{2, -1, 0}, true}, {[]api.Lop{loop(1, 3), loop(2, 3), end, loop(3, 1), set(4), end, end, set(1), loop(1, 1), end}, []int{6, 2, 1, 5, -1, 3, 0, -1, 9, 8}, true},
		{[]api.Lop{end}, nil, false}, {[]api.Lop{loop(1, 3)}, nil, false}, {[]api.Lop{end, loop(1, 3)}, nil, false}, {[]api.Lop{loop(1, 3), end, end}, nil, false}, {[]api.Lop{loop(1, 3), loop(2, 3), end}, nil, false},
		{[]api.Lop{{Op: 99}, {Op: -4}}, []int{-1, -1}, true},
	} {
		got, ok := lir.Ends(x.l)
		if !slices.Equal(got, x.want) || ok != x.ok {
			t.Error(i, got, ok)
		}
		for k, at := range got {
			if at >= 0 && got[at] != k {
				t.Error(i, k, at)
			}
		}
	}
}

// P15.3
func TestCheck(t *testing.T) {
	for i, x := range []struct {
		l   []api.Lop
		err api.Errno
	}{
		{nil, api.OK}, {[]api.Lop{loop(1, 3), {Op: api.LAddi, Imm: 5}, end}, api.OK}, {slices.Repeat([]api.Lop{set(0)}, 20000), api.OK}, {slices.Repeat([]api.Lop{{}}, 20001), api.ErrLong},
		{[]api.Lop{end, {}}, api.ErrArg}, {[]api.Lop{end}, api.ErrForm}, {[]api.Lop{loop(0, 1)}, api.ErrForm}, {[]api.Lop{loop(0, 100001), end}, api.ErrArg}, {[]api.Lop{loop(0, 0), end}, api.ErrArg},
		{nest(0, 10), api.OK}, {nest(0, 11), api.ErrForm}, {slices.Concat(nest(0, 10), nest(0, 10)), api.OK},
		{[]api.Lop{loop(1, 3), set(1), end}, api.ErrForm}, {[]api.Lop{loop(1, 3), loop(1, 3), end, end}, api.ErrForm}, {[]api.Lop{loop(1, 3), loop(2, 3), {Op: api.LLoad8, D: 1}, end, end}, api.ErrForm}, {[]api.Lop{loop(1, 3), loop(2, 3), end, set(1), end}, api.ErrForm}, {[]api.Lop{loop(1, 3), loop(2, 3), end, set(2), end}, api.OK},
		{[]api.Lop{loop(1, 3), {Op: api.LStore8, A: 1, B: 1}, {Op: api.LAdd, A: 1, B: 1}, end, set(1), loop(1, 2), end}, api.OK},
	} {
		if err := lir.Check(x.l); err != x.err {
			t.Error(i, err)
		}
	}
}

// P15.4
func TestVars(t *testing.T) {
	for i, x := range []struct {
		l    []api.Lop
		want []int
	}{
		{nil, nil}, {[]api.Lop{loop(9, 3), {Op: api.LAdd, D: 5, A: 63, B: 5}, {Op: api.LStore8, A: 7, B: 2}, end, {Op: api.LAdd, D: 1, A: 2, B: 64}, {Op: 50, D: 3}, {Op: api.LMove, D: 4, A: 4, Imm: 1}}, []int{2, 5, 7, 9, 63}}, {[]api.Lop{set(0)}, []int{0}}, {[]api.Lop{end, end}, nil}, {[]api.Lop{loop(8, 1)}, []int{8}},
	} {
		if got := lir.Vars(x.l); !slices.Equal(got, x.want) {
			t.Error(i, got)
		}
	}
}
