package cost_test

import (
	"slices"
	"testing"

	"pintle/api"
	"pintle/asm"
	"pintle/cost"
	"pintle/cpu"
	"pintle/emit"
	"pintle/exec"
	"pintle/mem"
)

var end = api.Lop{Op: api.LEnd}

func set(d int, n int32) api.Lop  { return api.Lop{Op: api.LSet, D: d, Imm: n} }
func loop(d int, n int32) api.Lop { return api.Lop{Op: api.LLoop, D: d, Imm: n} }

// nest puts loops, the first one outmost, about a step.
func nest(many ...int32) []api.Lop {
	l := []api.Lop{{Op: api.LAddi, D: 20, A: 20, Imm: 1}}
	for i := len(many) - 1; i >= 0; i-- {
		l = slices.Concat([]api.Lop{loop(i, many[i])}, l, []api.Lop{end})
	}
	return l
}

func steps(t *testing.T, l []api.Lop) uint64 {
	t.Helper()
	n, err := cost.Steps(l)
	if err != api.OK {
		t.Fatal(err)
	}
	return n
}

// run tells how many steps a machine does.
func run(t *testing.T, l []api.Lop) uint64 {
	t.Helper()
	items, _, _ := emit.Program(l)
	words, err := asm.Words(0, items)
	if err != api.OK {
		t.Fatal(err)
	}
	m, _ := mem.New(api.Target{Flash: 0, FlashSize: 1 << 20, RAM: 1 << 20, RAMSize: 1024})
	for i, w := range words {
		m.Put(uint32(4*i), []byte{byte(w), byte(w >> 8), byte(w >> 16), byte(w >> 24)})
	}
	if n, err := cost.Size(l); n != 4*len(words) || err != api.OK {
		t.Error("size", n, 4*len(words), err)
	}
	c := cpu.New(m, 0)
	c.Set(2, 1<<20+1024)
	n, trap := exec.Run(c, 1<<40)
	if trap != api.TrapBreak {
		t.Fatal(trap)
	}
	return uint64(n)
}

func programs() [][]api.Lop {
	var all [][]api.Lop
	for v := range 64 {
		all = append(all, slices.Repeat([]api.Lop{set(v, int32(v*1000)), {Op: api.LAddi, D: v, A: 63, Imm: 5000}, {Op: api.LLoad8, D: 1, A: v, Imm: -int32(v*1000) + 1<<20}}[:1+v%2], 3))
	}
	many := []api.Lop{}
	for v := range 40 {
		many = append(many, set(v, 5), api.Lop{Op: api.LMul, D: v, A: 63 - v, B: v})
	}
	all = append(all, many, nest(3, 1, 4), nest(1), slices.Concat(nest(2, 3), many, nest(5, 2, 2, 2)), append(append([]api.Lop{loop(50, 7), loop(51, 3)}, many...), end, end))
	// Loops that are longer than a branch reaches, within one another.
	long := slices.Repeat([]api.Lop{{Op: api.LAddi, D: 30, A: 30, Imm: 4097}}, 500)
	all = append(all, slices.Concat([]api.Lop{loop(1, 5)}, long, []api.Lop{loop(2, 3)}, long, nest(4), []api.Lop{end, end}), append(append([]api.Lop{loop(1, 1)}, long...), end))
	return all
}

// P19.1, P19.2
func TestSteps(t *testing.T) {
	if steps(t, nil) != 0 || steps(t, []api.Lop{set(0, 5)}) != 2 {
		t.Error("the examples")
	}
	if n, err := cost.Size(nil); n != 4 || err != api.OK {
		t.Error(n, err)
	}
	for i, l := range programs() {
		if got, want := steps(t, l), run(t, l); got != want {
			t.Error(i, got, want)
		}
	}
	for i, x := range []struct {
		l   []api.Lop
		err api.Errno
	}{{[]api.Lop{{}}, api.ErrArg}, {[]api.Lop{end}, api.ErrForm}, {make([]api.Lop, 20001), api.ErrLong}} {
		if n, err := cost.Steps(x.l); n != 0 || err != x.err {
			t.Error(i, n, err)
		}
		if n, err := cost.Size(x.l); n != 0 || err != x.err {
			t.Error(i, n, err)
		}
	}
}

// P19.1: what is too much.
func TestTooMany(t *testing.T) {
	const most = 100000
	// Within the outmost loop about 10^5 * 10^5 * 3 steps are done each round: 3 * 10^10.
	if n := steps(t, nest(most, most, most)); n < 1e15 || n > 1e16 {
		t.Error(n)
	}
	if n, err := cost.Steps(nest(1, most, most, most)); n != 0 || err != api.ErrLong {
		t.Error("a round", n, err)
	}
	if _, err := cost.Size(nest(1, most, most, most)); err != api.OK {
		t.Error(err)
	}
	// Which loop has too many plays no part: not the last one's, but one in its midst.
	if n, err := cost.Steps(slices.Concat(nest(2), nest(1, most, most, most), nest(2))); n != 0 || err != api.ErrLong {
		t.Error("a round in the midst", n, err)
	}
	for _, x := range []struct {
		many int32
		err  api.Errno
	}{{30, api.OK}, {45, api.ErrLong}, {70, api.ErrLong}} {
		if _, err := cost.Steps(slices.Concat([]api.Lop{loop(9, 1)}, nest(most, most, x.many), []api.Lop{end})); err != x.err {
			t.Error(x, err)
		}
	}
	big := nest(most, most, most, 3)
	n := steps(t, big)
	if n < 1<<52 || n > 1<<54 {
		t.Fatal(n)
	}
	// Side by side up to 2^62, and beyond.
	fits := int((1 << 62) / (n + 10))
	for _, more := range []int{-1, 2, fits} {
		got, err := cost.Steps(slices.Repeat(big, fits+more))
		if more < 0 && (got == 0 || err != api.OK) || more > 0 && (got != 0 || err != api.ErrLong) {
			t.Error("all", more, got, err)
		}
	}
}

// exactly tells steps that are as many as told, as a part of a program that has variables 0 to 5 and 20 already.
func exactly(t *testing.T, want uint64) []api.Lop {
	t.Helper()
	vars := slices.Concat(nest(1, 1, 1, 1, 1, 1), []api.Lop{{Op: api.LAddi, D: 20, A: 20, Imm: 1}})
	none := steps(t, vars)
	of := func(l []api.Lop) uint64 { return steps(t, slices.Concat(vars, l)) - none }
	var all []api.Lop
	for _, outer := range [][]int32{{100000, 100000}, {100000}, {}} {
		least := of(nest(append(slices.Clone(outer), 1)...))
		each := of(nest(append(slices.Clone(outer), 2)...)) - least
		for want >= least {
			many := min((want-least)/each+1, 100000)
			part := nest(append([]int32{int32(many)}, outer...)...)
			if of(part) > want {
				many--
				if many == 0 {
					break
				}
				part = nest(append([]int32{int32(many)}, outer...)...)
			}
			all = append(all, part...)
			want -= of(part)
		}
	}
	for range want {
		all = append(all, api.Lop{Op: api.LAddi, D: 20, A: 20, Imm: 1})
	}
	return all
}

// P19.1: just as many steps as there may be, and one more.
func TestMost(t *testing.T) {
	one := []api.Lop{{Op: api.LAddi, D: 20, A: 20, Imm: 1}}
	// The loop's own two instructions are a part of its round.
	round := exactly(t, 1<<40-2)
	within := func(n int32, l []api.Lop) []api.Lop { return slices.Concat([]api.Lop{loop(6, n)}, l, []api.Lop{end}) }
	a, b := steps(t, within(1, round)), steps(t, within(2, round))
	if b-a != 1<<40 {
		t.Fatal("not as many", b-a)
	}
	if n, err := cost.Steps(within(1, append(round, one...))); n != 0 || err != api.ErrLong {
		t.Error(n, err)
	}
	// 2^62 is 2^22 such rounds, but for what stands about them.
	var all []api.Lop
	rounds := uint64(1<<22 - 1)
	for rounds > 0 {
		n := min(rounds, 100000)
		all = append(all, within(int32(n), round)...)
		rounds -= n
	}
	all = append(all, exactly(t, 1<<62-steps(t, all)-1000)...)
	for steps(t, all) < 1<<62 {
		all = append(all, one...)
	}
	if n := steps(t, all); n != 1<<62 {
		t.Error(n)
	}
	if n, err := cost.Steps(append(all, one...)); n != 0 || err != api.ErrLong {
		t.Error(n, err)
	}
}

// P19.3
func TestRounds(t *testing.T) {
	for _, within := range [][]api.Lop{nil, {set(5, 70000)}, nest(3, 2), slices.Repeat([]api.Lop{{Op: api.LAddi, D: 30, A: 30, Imm: 4097}}, 700)} {
		at := func(n int32) uint64 { return steps(t, slices.Concat([]api.Lop{loop(60, n)}, within, []api.Lop{end})) }
		round := at(2) - at(1)
		for _, n := range []int32{3, 4, 10, 1000} {
			if at(n) != at(1)+uint64(n-1)*round {
				t.Error(n, at(n), round)
			}
		}
		both := func(n int32) uint64 {
			return steps(t, slices.Concat([]api.Lop{loop(61, 6), loop(60, n)}, within, []api.Lop{end, end}))
		}
		if both(9)-both(8) != 6*round {
			t.Error(both(9)-both(8), round)
		}
	}
}
