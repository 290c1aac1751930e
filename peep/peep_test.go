package peep_test

import (
	"bytes"
	"slices"
	"testing"

	"pintle/api"
	"pintle/lir"
	"pintle/lirrun"
	"pintle/mem"
	"pintle/peep"
)

var end = api.Lop{Op: api.LEnd}

func set(d int, n int32) api.Lop     { return api.Lop{Op: api.LSet, D: d, Imm: n} }
func addi(d, a int, n int32) api.Lop { return api.Lop{Op: api.LAddi, D: d, A: a, Imm: n} }
func move(d, a int) api.Lop          { return api.Lop{Op: api.LMove, D: d, A: a} }
func loop(d int, n int32) api.Lop    { return api.Lop{Op: api.LLoop, D: d, Imm: n} }
func store(a, b int) api.Lop         { return api.Lop{Op: api.LStore8, A: a, B: b} }

// P39.1
func TestIdle(t *testing.T) {
	for i, x := range []struct {
		x    api.Lop
		want bool
	}{
		{move(3, 3), true}, {move(0, 0), true}, {move(3, 4), false}, {addi(3, 3, 0), true}, {addi(3, 3, 1), false}, {addi(3, 4, 0), false}, {api.Lop{Op: api.LShl, D: 63, A: 63}, true}, {api.Lop{Op: api.LShr, D: 5, A: 5}, true}, {api.Lop{Op: api.LSar, D: 5, A: 5}, true}, {api.Lop{Op: api.LSar, D: 5, A: 5, Imm: 1}, false},
		{move(64, 64), false}, {move(-1, -1), false}, {api.Lop{Op: api.LMove, Imm: 1}, false}, {api.Lop{Op: api.LMove, B: 1}, false}, {api.Lop{Op: api.LAddi, B: 1}, false}, {api.Lop{}, false}, {api.Lop{Op: 99}, false}, {set(0, 0), false}, {api.Lop{Op: api.LAnd}, false}, {api.Lop{Op: api.LOr, D: 1, A: 1, B: 1}, false}, {api.Lop{Op: api.LLoad8}, false}, {api.Lop{Op: api.LStore8}, false}, {end, false}, {loop(0, 1), false},
	} {
		if peep.Idle(x.x) != x.want {
			t.Error(i, x)
		}
	}
}

// P39.2
func TestTidy(t *testing.T) {
	for i, x := range []struct{ l, want []api.Lop }{
		{nil, nil}, {[]api.Lop{addi(1, 1, 2), addi(1, 1, -2)}, nil}, {[]api.Lop{move(1, 1), move(1, 2)}, []api.Lop{move(1, 2)}}, {[]api.Lop{set(1, 5), set(1, 7)}, []api.Lop{set(1, 7)}}, {[]api.Lop{set(1, 5), set(2, 7)}, []api.Lop{set(1, 5), set(2, 7)}}, {[]api.Lop{set(1, 5), addi(1, 1, -7)}, []api.Lop{set(1, -2)}},
		{[]api.Lop{addi(1, 1, 1<<31-1), addi(1, 1, 1)}, []api.Lop{addi(1, 1, -1<<31)}}, {[]api.Lop{set(1, -1<<31), addi(1, 1, -1)}, []api.Lop{set(1, 1<<31-1)}}, {[]api.Lop{addi(1, 2, 5), addi(1, 1, 5)}, []api.Lop{addi(1, 2, 5), addi(1, 1, 5)}}, {[]api.Lop{addi(1, 1, 5), addi(1, 2, 5)}, []api.Lop{addi(1, 1, 5), addi(1, 2, 5)}}, {[]api.Lop{addi(1, 1, 5), addi(2, 2, 5)}, []api.Lop{addi(1, 1, 5), addi(2, 2, 5)}},
		{[]api.Lop{set(1, 5), move(3, 3), set(1, 6)}, []api.Lop{set(1, 6)}}, {[]api.Lop{set(1, 5), store(2, 1), set(1, 6)}, []api.Lop{set(1, 5), store(2, 1), set(1, 6)}},
		// What comes together by what is left out goes on; a sum of 0 is left out, too.
		{[]api.Lop{set(1, 5), addi(2, 2, 4), addi(2, 2, -4), addi(1, 1, 1)}, []api.Lop{set(1, 6)}}, {[]api.Lop{set(1, 4), addi(2, 2, 4), move(9, 9), addi(2, 2, -4), set(1, 1)}, []api.Lop{set(1, 1)}},
		{[]api.Lop{loop(1, 1), addi(2, 2, 5), end}, []api.Lop{set(1, 1), addi(2, 2, 5), set(1, 0)}}, {[]api.Lop{loop(1, 1), end}, []api.Lop{set(1, 0)}}, {[]api.Lop{loop(1, 2), end}, []api.Lop{loop(1, 2), end}}, {[]api.Lop{set(1, 9), loop(1, 1), move(2, 2), loop(3, 2), move(4, 1), end, end, addi(1, 1, 3)}, []api.Lop{set(1, 1), loop(3, 2), move(4, 1), end, set(1, 3)}},
		{[]api.Lop{loop(1, 1), loop(2, 1), loop(3, 1), end, end, end}, []api.Lop{set(1, 1), set(2, 1), set(3, 0), set(2, 0), set(1, 0)}}, {[]api.Lop{loop(1, 3), loop(2, 1), end, move(0, 0), end}, []api.Lop{loop(1, 3), set(2, 0), end}},
	} {
		kept := slices.Clone(x.l)
		got, fewer, err := peep.Tidy(x.l)
		if !slices.Equal(got, x.want) || fewer != len(x.l)-len(x.want) || err != api.OK {
			t.Error(i, got, fewer, err)
		}
		if len(got) > 0 {
			got[0].Op = 77
		}
		if !slices.Equal(x.l, kept) {
			t.Error("changed", i)
		}
	}
	for i, x := range []struct {
		l   []api.Lop
		err api.Errno
	}{{[]api.Lop{{}}, api.ErrArg}, {[]api.Lop{end}, api.ErrForm}, {make([]api.Lop, 20001), api.ErrLong}} {
		if l, n, err := peep.Tidy(x.l); l != nil || n != 0 || err != x.err {
			t.Error(i, err)
		}
	}
	long := slices.Repeat([]api.Lop{addi(1, 1, 1), move(2, 2)}, 10000)
	if got, n, err := peep.Tidy(long); !slices.Equal(got, []api.Lop{addi(1, 1, 10000)}) || n != 19999 || err != api.OK {
		t.Error(len(got), n, err)
	}
	nested := slices.Concat(slices.Repeat([]api.Lop{set(1, 1), set(2, 2)}, 1), slices.Repeat([]api.Lop{addi(3, 3, 1), addi(4, 4, 1)}, 4000), slices.Repeat([]api.Lop{addi(4, 4, -1), addi(3, 3, -1)}, 4000))
	if got, _, err := peep.Tidy(nested); !slices.Equal(got, []api.Lop{set(1, 1), set(2, 2)}) || err != api.OK {
		t.Error(len(got), err)
	}
}

// slow tidies as the chapter's words say it: the first step that can be, again and again.
func slow(l []api.Lop) []api.Lop {
	l = slices.Clone(l)
again:
	ends, _ := lir.Ends(l)
	for i, x := range l {
		if peep.Idle(x) {
			l = slices.Delete(l, i, i+1)
			goto again
		}
		if i+1 < len(l) {
			y := l[i+1]
			same := x.D == y.D
			adds := y.Op == api.LAddi && y.A == y.D && same
			switch {
			case x.Op == api.LSet && y.Op == api.LSet && same:
				l = slices.Delete(l, i, i+1)
				goto again
			case x.Op == api.LAddi && x.A == x.D && adds, x.Op == api.LSet && adds:
				l[i].Imm += y.Imm
				l = slices.Delete(l, i+1, i+2)
				goto again
			}
		}
		if x.Op == api.LLoop && x.Imm == 1 {
			l[i], l[ends[i]] = set(x.D, 1), set(x.D, 0)
			goto again
		}
	}
	return l
}

// P39.2, P39.3, P39.4
func TestByChance(t *testing.T) {
	seed := uint32(1)
	next := func(n int) int { seed = seed*1664525 + 1013904223; return int(seed>>8) % n }
	var steps func(n, depth int, busy []int) []api.Lop
	steps = func(n, depth int, busy []int) []api.Lop {
		var l []api.Lop
		for range n {
			d, a := next(4), next(4)
			for slices.Contains(busy, d) {
				d = next(12)
			}
			switch next(9) {
			case 0, 1:
				l = append(l, set(d, int32(next(5)-2)))
			case 2, 3:
				l = append(l, addi(d, d, int32(next(5)-2)))
			case 4:
				l = append(l, addi(d, a, int32(next(3)-1)))
			case 5:
				l = append(l, move(d, a))
			case 6:
				l = append(l, api.Lop{Op: api.LShl + next(3), D: d, A: a, Imm: int32(next(2))})
			case 7:
				l = append(l, api.Lop{Op: api.LStore8, A: a, B: d, Imm: int32(next(12) - 1)})
			case 8:
				if depth > 0 {
					l = append(l, loop(d, int32(1+next(2))))
					l = append(l, steps(3, depth-1, append(slices.Clone(busy), d))...)
					l = append(l, end)
				}
			}
		}
		return l
	}
	for range 3000 {
		l := steps(12, 3, nil)
		got, fewer, err := peep.Tidy(l)
		if want := slow(l); !slices.Equal(got, want) || fewer != len(l)-len(want) || err != api.OK {
			t.Fatal(l, got, want, err)
		}
		if again, none, err := peep.Tidy(got); !slices.Equal(again, got) || none != 0 || err != api.OK {
			t.Fatal("again", got, again, err)
		}
		m1, _ := mem.New(api.Target{Flash: 64, FlashSize: 64, RAM: 0, RAMSize: 16})
		m2, _ := mem.New(m1.Target())
		a, n, trap, _ := lirrun.Run(l, m1, 1<<30)
		b, k, same, err := lirrun.Run(got, m2, 1<<30)
		x, _ := m1.Get(0, 16)
		y, _ := m2.Get(0, 16)
		if err != api.OK || trap != same || k > n || !bytes.Equal(x, y) || !slices.Equal(a, b) {
			t.Fatal(l, got, trap, same, n, k)
		}
	}
}
