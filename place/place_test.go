package place_test

import (
	"reflect"
	"slices"
	"testing"

	"pintle/api"
	"pintle/place"
)

const ram = 0x20000000

func target(flash, size uint32) api.Target {
	return api.Target{Flash: 4096, FlashSize: flash, RAM: ram, RAMSize: size}
}

// P31.1
func TestLay(t *testing.T) {
	for i, x := range []struct {
		t    api.Target
		n    api.Need
		want api.Plan
	}{
		{target(64, 64), api.Need{Text: 8, Consts: []int{5}}, api.Plan{Consts: []uint32{4096}, Text: 4104, Flash: 16, Input: ram, Output: ram, Arena: ram, Stack: ram + 64}},
		{target(64, 64), api.Need{}, api.Plan{Text: 4096, Input: ram, Output: ram, Arena: ram, Stack: ram + 64}},
		{target(64, 64), api.Need{Text: 4, Consts: []int{5, 0, 7, 1}, Input: 3, Output: 6, Arena: 5, Stack: 32}, api.Plan{Consts: []uint32{4096, 4104, 4104, 4112}, Text: 4116, Flash: 24, Input: ram, Output: ram + 4, Arena: ram + 12, Stack: ram + 64, RAM: 17 + 32}},
		{target(64, 64), api.Need{Text: 4, Consts: []int{5, 0, 7, 1}, Input: 3, Output: 6, Arena: 5, Stack: 16, InRAM: true}, api.Plan{Text: 4096, Flash: 4, Input: ram, Output: ram + 4, Arena: ram + 12, Consts: []uint32{ram + 20, ram + 28, ram + 28, ram + 36}, Stack: ram + 64, RAM: 37 + 16}},
		{target(64, 60), api.Need{Input: 5}, api.Plan{Text: 4096, Input: ram, Output: ram + 8, Arena: ram + 8, Stack: ram + 48, RAM: 8}},
		{api.Target{Flash: 0, FlashSize: 4, RAM: 1<<32 - 64, RAMSize: 64}, api.Need{Stack: 32, Input: 16}, api.Plan{Input: 1<<32 - 64, Output: 1<<32 - 48, Arena: 1<<32 - 48, Stack: 1<<32 - 16, RAM: 48}},
		{api.Target{Flash: 1<<32 - 16, FlashSize: 16, RAM: 4, RAMSize: 12}, api.Need{Text: 16}, api.Plan{Text: 1<<32 - 16, Flash: 16, Input: 4, Output: 4, Arena: 4, Stack: 16}},
		{target(16, 64), api.Need{Text: 8, Consts: []int{5}}, api.Plan{Consts: []uint32{4096}, Text: 4104, Flash: 16, Input: ram, Output: ram, Arena: ram, Stack: ram + 64}},
		{target(4, 64), api.Need{Input: 16, Output: 16, Arena: 15, Stack: 16}, api.Plan{Text: 4096, Input: ram, Output: ram + 16, Arena: ram + 32, Stack: ram + 64, RAM: 63}},
	} {
		kept := slices.Clone(x.n.Consts)
		if got, err := place.Lay(x.t, x.n); !reflect.DeepEqual(got, x.want) || err != api.OK || !slices.Equal(kept, x.n.Consts) {
			t.Error(i, got, err)
		}
	}
}

// P31.1: the errors, in their order.
func TestErrors(t *testing.T) {
	much := api.Need{Text: 1 << 24, Stack: 1 << 24}
	for i, x := range []struct {
		t   api.Target
		n   api.Need
		err api.Errno
	}{
		{api.Target{}, much, api.ErrArg}, {api.Target{Flash: 0, FlashSize: 64, RAM: 0, RAMSize: 64}, api.Need{}, api.ErrArg},
		{target(64, 64), api.Need{Text: -4}, api.ErrArg}, {target(64, 64), api.Need{Text: 6}, api.ErrArg}, {target(64, 64), api.Need{Stack: 8}, api.ErrArg}, {target(64, 64), api.Need{Stack: -16}, api.ErrArg}, {target(64, 64), api.Need{Text: 1<<24 + 4}, api.ErrArg}, {target(64, 64), api.Need{Input: -1}, api.ErrArg}, {target(64, 64), api.Need{Output: 1<<24 + 1}, api.ErrArg}, {target(64, 64), api.Need{Arena: 1 << 62}, api.ErrArg}, {target(64, 64), api.Need{Consts: []int{4, -1}}, api.ErrArg}, {target(64, 64), api.Need{Consts: make([]int, 81)}, api.ErrArg}, {target(64, 64), api.Need{Consts: make([]int, 80)}, api.OK},
		{target(64, 64), much, api.ErrFlash}, {target(64, 64), api.Need{Text: 64}, api.OK}, {target(64, 64), api.Need{Text: 68}, api.ErrFlash}, {target(64, 64), api.Need{Text: 60, Consts: []int{5}}, api.ErrFlash}, {target(64, 64), api.Need{Consts: []int{61, 3}}, api.ErrFlash}, {target(64, 64), api.Need{Consts: []int{64}}, api.OK}, {target(64, 64), api.Need{Consts: []int{65}}, api.ErrFlash}, {target(64, 64), api.Need{Consts: slices.Repeat([]int{1 << 24}, 80), Input: 99}, api.ErrFlash},
		{target(64, 64), api.Need{Input: 64}, api.OK}, {target(64, 64), api.Need{Input: 65}, api.ErrRAM}, {target(64, 64), api.Need{Input: 61, Output: 1}, api.ErrRAM}, {target(64, 64), api.Need{Input: 48, Stack: 16}, api.OK}, {target(64, 64), api.Need{Input: 49, Stack: 16}, api.ErrRAM}, {target(64, 64), api.Need{Stack: 64}, api.OK}, {target(64, 64), api.Need{Stack: 80}, api.ErrRAM}, {target(64, 64), api.Need{Input: 60, Consts: []int{8}, InRAM: true}, api.ErrRAM}, {target(64, 64), api.Need{Input: 60, Consts: []int{8}}, api.OK},
		// The stack's own place reaches into what lies there, or ahead of RAM.
		{target(64, 60), api.Need{Input: 48}, api.OK}, {target(64, 60), api.Need{Input: 49}, api.ErrRAM}, {api.Target{Flash: 0, FlashSize: 4, RAM: 20, RAMSize: 8}, api.Need{}, api.ErrRAM}, {api.Target{Flash: 0, FlashSize: 4, RAM: 20, RAMSize: 12}, api.Need{}, api.OK}, {api.Target{Flash: 0, FlashSize: 4, RAM: 1<<32 - 12, RAMSize: 12}, api.Need{}, api.ErrRAM}, {api.Target{Flash: 64, FlashSize: 4, RAM: 0, RAMSize: 12}, api.Need{Stack: 16}, api.ErrRAM}, {api.Target{Flash: 64, FlashSize: 4, RAM: 0, RAMSize: 12}, api.Need{}, api.OK},
	} {
		got, err := place.Lay(x.t, x.n)
		if err != x.err || err != api.OK && !reflect.DeepEqual(got, api.Plan{}) {
			t.Error(i, got, err)
		}
	}
}

// P31.2
func TestWithin(t *testing.T) {
	seed := uint32(7)
	next := func(n int) int { seed = seed*1664525 + 1013904223; return int(seed>>8) % n }
	laid := 0
	for range 3000 {
		x := api.Target{Flash: uint32(next(8) * 4), FlashSize: uint32(4 + 4*next(60)), RAM: -uint32(4 + 4*next(80)), RAMSize: 4}
		x.RAMSize = uint32(4 + 4*next(int((1<<32-uint64(x.RAM))/4)))
		n := api.Need{Text: 4 * next(30), Input: next(30), Output: next(30), Arena: next(60), Stack: 16 * next(4), InRAM: next(2) == 0}
		for range next(5) {
			n.Consts = append(n.Consts, next(20))
		}
		p, err := place.Lay(x, n)
		if err != api.OK {
			continue
		}
		laid++
		type part struct{ from, to int64 }
		of := func(at uint32, n int) part { return part{int64(at), int64(at) + int64(n)} }
		flash := []part{of(p.Text, n.Text)}
		inRAM := []part{of(p.Input, n.Input), of(p.Output, n.Output), of(p.Arena, n.Arena), {int64(p.Stack) - int64(n.Stack), int64(p.Stack)}}
		for i, at := range p.Consts {
			if n.InRAM {
				inRAM = append(inRAM, of(at, n.Consts[i]))
			} else {
				flash = append(flash, of(at, n.Consts[i]))
			}
		}
		apart := func(l []part, begin, size uint32) {
			for i, a := range l {
				if a.from < int64(begin) || a.to > int64(begin)+int64(size) {
					t.Fatal("beyond", x, n, p)
				}
				for _, b := range l[:i] {
					if a.from < b.to && b.from < a.to {
						t.Fatal("in common", x, n, p)
					}
				}
			}
		}
		apart(flash, x.Flash, x.FlashSize)
		apart(inRAM, x.RAM, x.RAMSize)
		if p.Flash > x.FlashSize || p.RAM > x.RAMSize || p.Stack%16 != 0 || len(p.Consts) != len(n.Consts) {
			t.Fatal(x, n, p)
		}
	}
	if laid < 500 {
		t.Error("few are laid", laid)
	}
}
