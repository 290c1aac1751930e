package cost_test

import (
	"slices"
	"testing"

	"pintle/api"
	"pintle/asm"
	"pintle/cost"
	"pintle/cpu"
	"pintle/emit"
	"pintle/exec"
	"pintle/mem"
)

var end = api.Lop{Op: api.LEnd}

func set(d int, n int32) api.Lop  { return api.Lop{Op: api.LSet, D: d, Imm: n} }
func loop(d int, n int32) api.Lop { return api.Lop{Op: api.LLoop, D: d, Imm: n} }

// nest puts loops, the first one outmost, about a step.
func nest(many ...int32) []api.Lop {
	l := []api.Lop{{Op: api.LAddi, D: 20, A: 20, Imm: 1}}
	for i := len(many) - 1; i >= 0; i-- {
		l = slices.Concat([]api.Lop{loop(i, many[i])}, l, []api.Lop{end})
	}
	return l
}

func steps(t *testing.T, l []api.Lop) uint64 {
	t.Helper()
	n, err := cost.Steps(l)
	if err != api.OK {
		t.Fatal(err)
	}
	return n
}

// run tells how many steps a machine does.
func run(t *testing.T, l []api.Lop) uint64 {
	t.Helper()
	items, _, _ := emit.Program(l)
	words, err := asm.Words(0, items)
	if err != api.OK {
		t.Fatal(err)
	}
	m, _ := mem.New(api.Target{Flash: 0, FlashSize: 1 << 20, RAM: 1 << 20, RAMSize: 1024})
	for i, w := range words {
		m.Put(uint32(4*i), []byte{byte(w), byte(w >> 8), byte(w >> 16), byte(w >> 24)})
	}
	if n, err := cost.Size(l); n != 4*len(words) || err != api.OK {
		t.Error("size", n, 4*len(words), err)
	}
	c := cpu.New(m, 0)
	c.Set(2, 1<<20+1024)
	n, trap := exec.Run(c, 1<<40)
	if trap != api.TrapBreak {
		t.Fatal(trap)
	}
	return uint64(n)
}

func programs() [][]api.Lop {
	var all [][]api.Lop
	for v := range 64 {
		all = append(all, slices.Repeat([]api.Lop{set(v, int32(v*1000)), {Op: api.LAddi, D: v, A: 63, Imm: 5000}, {Op: api.LLoad8, D: 1, A: v, Imm: -int32(v*1000) + 1<<20}}[:1+v%2], 3))
	}
	many := []api.Lop{}
	for v := range 40 {
		many = append(many, set(v, 5), api.Lop{Op: api.LMul, D: v, A: 63 - v, B: v})
	}
	all = append(all, many, nest(3, 1, 4), nest(1), slices.Concat(nest(2, 3), many, nest(5, 2, 2, 2)), append(append([]api.Lop{loop(50, 7), loop(51, 3)}, many...), end, end))
	// Loops that are longer than a branch reaches, within one another.
	long := slices.Repeat([]api.Lop{{Op: api.LAddi, D: 30, A: 30, Imm: 4097}}, 500)
	all = append(all, slices.Concat([]api.Lop{loop(1, 5)}, long, []api.Lop{loop(2, 3)}, long, nest(4), []api.Lop{end, end}), append(append([]api.Lop{loop(1, 1)}, long...), end))
	return all
}

// P19.1, P19.2
func TestSteps(t *testing.T) {
	if steps(t, nil) != 0 || steps(t, []api.Lop{set(0, 5)}) != 2 {
		t.Error("the examples")
	}
	if n, err := cost.Size(nil); n != 4 || err != api.OK {
		t.Error(n, err)
	}
	for i, l := range programs() {
		if got, want := steps(t, l), run(t, l); got != want {
			t.Error(i, got, want)
		}
	}
	for i, x := range []struct {
		l   []api.Lop
		err api.Errno
	}{{[]api.Lop{{}}, api.ErrArg}, {[]api.Lop{end}, api.ErrForm}, {make([]api.Lop, 20001), api.ErrLong}} {
		if n, err := cost.Steps(x.l); n != 0 || err != x.err {
			t.Error(i, n, err)
		}
		if n, err := cost.Size(x.l); n != 0 || err != x.err {
			t.Error(i, n, err)
		}
	}
}

// P19.1: what is too much.
func TestTooMany(t *testing.T) {
	const most = 100000
	// Within the outmost loop about 10^5 * 10^5 * 3 steps are done each round: 3 * 10^10.
	if n := steps(t, nest(most, most, most)); n < 1e15 || n > 1e16 {
		t.Error(n)
	}
	if n, err := cost.Steps(nest(1, most, most, most)); n != 0 || err != api.ErrLong {
		t.Error("a round", n, err)
	}
	if _, err := cost.Size(nest(1, most, most, most)); err != api.OK {
		t.Error(err)
	}
	// Which loop has too many plays no part: not the last one's, but one in its midst.
	if n, err := cost.Steps(slices.Concat(nest(2), nest(1, most, most, most), nest(2))); n != 0 || err != api.ErrLong {
		t.Error("a round in the midst", n, err)
	}
	big := nest(most, most, most, 3)
	n := steps(t, big)
	if n < 1<<52 || n > 1<<54 {
		t.Fatal(n)
	}
	// Side by side up to 2^62, and beyond.
	fits := int((1 << 62) / (n + 10))
	if _, err := cost.Steps(slices.Repeat(big, min(fits, 20000/len(big)))); err != api.OK {
		t.Error(err)
	}
	if got, err := cost.Steps(slices.Repeat(big, 20000/len(big))); fits < 20000/len(big) && (got != 0 || err != api.ErrLong) {
		t.Error("all", got, err)
	}
}

// P19.3
func TestRounds(t *testing.T) {
	for _, within := range [][]api.Lop{nil, {set(5, 70000)}, nest(3, 2), slices.Repeat([]api.Lop{{Op: api.LAddi, D: 30, A: 30, Imm: 4097}}, 700)} {
		at := func(n int32) uint64 { return steps(t, slices.Concat([]api.Lop{loop(60, n)}, within, []api.Lop{end})) }
		round := at(2) - at(1)
		for _, n := range []int32{3, 4, 10, 1000} {
			if at(n) != at(1)+uint64(n-1)*round {
				t.Error(n, at(n), round)
			}
		}
		both := func(n int32) uint64 {
			return steps(t, slices.Concat([]api.Lop{loop(61, 6), loop(60, n)}, within, []api.Lop{end, end}))
		}
		if both(9)-both(8) != 6*round {
			t.Error(both(9)-both(8), round)
		}
	}
}
