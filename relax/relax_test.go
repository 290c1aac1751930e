package relax_test

import (
	"slices"
	"testing"

	"pintle/api"
	"pintle/relax"
)

var nop = api.Item{Kind: api.ItemIns, Ins: api.Ins{Op: api.Addi}}

func label(n int) api.Item { return api.Item{Kind: api.ItemLabel, Label: n} }
func branch(n int) api.Item {
	return api.Item{Kind: api.ItemBranch, Ins: api.Ins{Op: api.Bne, Rs1: 5}, Label: n}
}
func jump(n int) api.Item { return api.Item{Kind: api.ItemJump, Ins: api.Ins{Op: api.Jal}, Label: n} }
func set(rd int, n int32) api.Item {
	return api.Item{Kind: api.ItemSet, Ins: api.Ins{Rd: rd, Imm: n}}
}

// list joins items, and ints as so many nops.
func list(l ...any) []api.Item {
	var out []api.Item
	for _, x := range l {
		switch x := x.(type) {
		case api.Item:
			out = append(out, x)
		case int:
			out = append(out, slices.Repeat([]api.Item{nop}, x)...)
		}
	}
	return out
}

// P13.1
func TestCheck(t *testing.T) {
	bad := api.Item{Kind: api.ItemIns}
	for i, x := range []struct {
		l   []api.Item
		err api.Errno
	}{
		{nil, api.OK}, {list(nop, label(1), branch(1), jump(1), set(31, -5), set(1, 5), label(-7), label(1<<40)), api.OK}, {list(branch(3), label(3)), api.OK},
		{list(api.Item{Kind: api.ItemBranch, Ins: api.Ins{Op: api.Beq}}, label(0)), api.OK}, {list(api.Item{Kind: api.ItemBranch, Ins: api.Ins{Op: api.Bgeu, Rs1: 1, Rs2: 31}}, label(0)), api.OK}, {list(api.Item{Kind: api.ItemJump, Ins: api.Ins{Op: api.Jal, Rd: 1}}, label(0)), api.OK},
		{list(api.Item{Kind: api.ItemIns, Ins: api.Ins{Op: api.Beq, Imm: 8}}), api.OK},
		{list(api.MaxItems), api.OK}, {list(api.MaxItems, bad), api.ErrLong}, {list(api.MaxItems, label(1), label(1)), api.ErrLong},
		{list(api.Item{}), api.ErrArg}, {list(api.Item{Kind: 6, Ins: nop.Ins}), api.ErrArg}, {list(api.Item{Kind: -1}), api.ErrArg}, {list(bad), api.ErrArg}, {list(api.Item{Kind: api.ItemIns, Ins: api.Ins{Op: api.Addi, Rs2: 1}}), api.ErrArg},
		{list(api.Item{Kind: api.ItemLabel, Ins: api.Ins{Imm: 1}}), api.ErrArg}, {list(api.Item{Kind: api.ItemLabel, Ins: nop.Ins}), api.ErrArg},
		{list(api.Item{Kind: api.ItemBranch, Ins: api.Ins{Op: api.Jal}}, label(0)), api.ErrArg}, {list(api.Item{Kind: api.ItemBranch, Ins: api.Ins{Op: api.Sw}}, label(0)), api.ErrArg}, {list(api.Item{Kind: api.ItemBranch, Ins: api.Ins{Op: api.Beq, Imm: 4}}, label(0)), api.ErrArg}, {list(api.Item{Kind: api.ItemBranch, Ins: api.Ins{Op: api.Beq, Rd: 4}}, label(0)), api.ErrArg},
		{list(api.Item{Kind: api.ItemJump, Ins: api.Ins{Op: api.Jalr}}, label(0)), api.ErrArg}, {list(api.Item{Kind: api.ItemJump, Ins: api.Ins{Op: api.Jal, Imm: 4}}, label(0)), api.ErrArg}, {list(api.Item{Kind: api.ItemJump, Ins: api.Ins{Op: api.Jal, Rd: 32}}, label(0)), api.ErrArg},
		{list(set(0, 1)), api.ErrArg}, {list(set(32, 1)), api.ErrArg}, {list(api.Item{Kind: api.ItemSet, Ins: api.Ins{Op: api.Addi, Rd: 1}}), api.ErrArg}, {list(api.Item{Kind: api.ItemSet, Ins: api.Ins{Rd: 1, Rs1: 1}}), api.ErrArg}, {list(api.Item{Kind: api.ItemSet, Ins: api.Ins{Rd: 1, Rs2: 1}}), api.ErrArg},
		{list(label(1), label(1)), api.ErrName}, {list(branch(1)), api.ErrName}, {list(jump(1), label(2)), api.ErrName}, {list(label(1), label(1), bad), api.ErrArg}, {list(jump(9), bad), api.ErrArg},
	} {
		if err := relax.Check(x.l); err != x.err {
			t.Error(i, err)
		}
		if where, far, err := relax.Layout(x.l); err != x.err || x.err != api.OK && (where != nil || far != nil) {
			t.Error(i, err)
		}
	}
}

// P13.2
func TestLayout(t *testing.T) {
	for i, x := range []struct {
		l     []api.Item
		where []int
		far   []bool
	}{
		{nil, []int{0}, []bool{}},
		{list(nop, label(1), branch(1), jump(1), set(5, 3), set(5, 5000), set(5, 4096), label(2)), []int{0, 4, 4, 8, 12, 16, 24, 28, 28}, make([]bool, 8)},
	} {
		where, far, err := relax.Layout(x.l)
		if !slices.Equal(where, x.where) || !slices.Equal(far, x.far) || err != api.OK {
			t.Error(i, where, far, err)
		}
	}
	for i, x := range []struct {
		l   []api.Item
		far []int
	}{
		{list(label(1), 1024, branch(1)), nil}, {list(label(1), 1025, branch(1)), []int{1026}},
		{list(branch(1), 1022, label(1)), nil}, {list(branch(1), 1023, label(1)), []int{0}},
		// The second one becomes far first, and the first one, over it, behind that.
		{list(branch(1), branch(2), 1021, label(1), 2, label(2)), []int{0, 1}}, {list(branch(1), branch(2), 1020, label(1), 2, label(2)), nil}, {list(branch(1), branch(2), 1020, label(1), 3, label(2)), []int{1}},
		{list(branch(1), set(5, 5000), 1020, label(1)), nil}, {list(branch(1), set(5, 5000), 1021, label(1)), []int{0}},
	} {
		where, far, err := relax.Layout(x.l)
		var got []int
		for n, is := range far {
			if is {
				got = append(got, n)
			}
		}
		if !slices.Equal(got, x.far) || err != api.OK || where[len(x.l)] < 4*(len(x.l)-2) {
			t.Error(i, got, err)
		}
	}
}

// P13.2: what is too far for a jump.
func TestFar(t *testing.T) {
	// A setting of two instructions has 8 bytes.
	bytes8 := func(n int) []any {
		l := make([]any, n)
		for i := range l {
			l[i] = set(5, 5000)
		}
		return l
	}
	const reach = 1 << 20
	join := func(l ...any) []api.Item {
		var flat []any
		for _, x := range l {
			if more, ok := x.([]any); ok {
				flat = append(flat, more...)
			} else {
				flat = append(flat, x)
			}
		}
		return list(flat...)
	}
	for i, x := range []struct {
		l   []api.Item
		err api.Errno
	}{
		{join(jump(1), bytes8(reach/8-1), label(1)), api.OK}, {join(jump(1), bytes8(reach/8-1), nop, label(1)), api.ErrFar},
		{join(label(1), bytes8(reach/8), jump(1)), api.OK}, {join(label(1), bytes8(reach/8), nop, jump(1)), api.ErrFar},
		{join(branch(1), bytes8(reach/8-1), label(1)), api.OK}, {join(branch(1), bytes8(reach/8-1), nop, label(1)), api.ErrFar},
		{join(label(1), bytes8(reach/8-1), nop, branch(1)), api.OK}, {join(label(1), bytes8(reach/8), branch(1)), api.ErrFar},
	} {
		where, far, err := relax.Layout(x.l)
		if err != x.err || x.err != api.OK && (where != nil || far != nil) {
			t.Error(i, err)
		}
	}
}

// some makes items with branches to and fro.
func some(seed uint32, n int) []api.Item {
	next := func() int { seed = seed*1664525 + 1013904223; return int(seed >> 8) }
	var l []api.Item
	for i := range n {
		l = append(l, label(i))
		for range 1 + next()%3 {
			l = append(l, branch(max(0, min(n-1, i+next()%520-260))))
			l = append(l, nop)
		}
		if next()%3 == 0 {
			l = append(l, set(5, int32(next()%8000)))
		}
	}
	return l
}

func reaches(l []api.Item, far []bool) (bool, []int) {
	at := []int{0}
	places := map[int]int{}
	for i, x := range l {
		n := 4
		switch {
		case x.Kind == api.ItemLabel:
			places[x.Label] = at[i]
			n = 0
		case far[i], x.Kind == api.ItemSet && (x.Ins.Imm < -2048 || x.Ins.Imm > 2047) && x.Ins.Imm&4095 != 0:
			n = 8
		}
		at = append(at, at[i]+n)
	}
	for i, x := range l {
		if x.Kind == api.ItemBranch && !far[i] {
			if off := places[x.Label] - at[i]; off < -4096 || off > 4094 {
				return false, at
			}
		}
	}
	return true, at
}

// P13.3, P13.4
func TestReachAndNoMore(t *testing.T) {
	for seed := range uint32(12) {
		l := some(seed, 900)
		where, far, err := relax.Layout(l)
		ok, at := reaches(l, far)
		if err != api.OK || !ok || !slices.Equal(at, where) {
			t.Fatal(seed, err, ok)
		}
		// What is far now is far in whatever choice reaches: begin with all far, and bring near what can be, in some order.
		all := make([]bool, len(l))
		for i, x := range l {
			all[i] = x.Kind == api.ItemBranch
		}
		if ok, _ := reaches(l, all); !ok {
			t.Fatal("all far")
		}
		count := 0
		for i := range l {
			n := (i*7919 + int(seed)) % len(l)
			if !all[n] {
				continue
			}
			all[n] = false
			if ok, _ := reaches(l, all); !ok {
				all[n] = true
				count++
			}
			if count > 40 {
				break
			}
		}
		some := 0
		for i := range l {
			if far[i] && !all[i] {
				t.Fatal(seed, "far, but need not be", i)
			}
			if far[i] {
				some++
			}
		}
		if some == 0 {
			t.Error("none is far")
		}
	}
}
