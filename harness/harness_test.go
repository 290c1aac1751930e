package harness_test

import (
	"bytes"
	"reflect"
	"slices"
	"testing"

	"pintle/api"
	"pintle/asm"
	"pintle/eval"
	"pintle/family"
	"pintle/graph"
	"pintle/harness"
	"pintle/image"
	"pintle/mcc"
)

const (
	flash = 0x10000
	ram   = 0x20000000
)

// written has instructions as its text, an input of two bytes, and an output of the same and one more.
func written(t *testing.T, fuel uint64, l ...api.Ins) []byte {
	t.Helper()
	var items []api.Item
	for _, i := range l {
		items = append(items, api.Item{Kind: api.ItemIns, Ins: i})
	}
	words, err := asm.Words(flash, items)
	var text []byte
	for _, w := range words {
		text = append(text, byte(w), byte(w>>8), byte(w>>16), byte(w>>24))
	}
	m := api.Image{
		Target: api.Target{Flash: flash, FlashSize: 256, RAM: ram, RAMSize: 256},
		Entry:  flash, Text: api.Region{Addr: flash, Size: uint32(len(text))}, Fuel: fuel,
		Input: api.Region{Addr: ram, Size: 2}, Output: api.Region{Addr: ram + 8, Size: 3}, Segs: []api.Seg{{Addr: flash, Data: text}},
	}
	b, bad := image.Write(m)
	if err != api.OK || bad != api.OK {
		t.Fatal(err, bad)
	}
	return b
}

var (
	stop  = api.Ins{Op: api.Ebreak}
	call  = api.Ins{Op: api.Ecall}
	round = api.Ins{Op: api.Jal}
	// copies moves the input to the output, and puts -1 behind it.
	copies = []api.Ins{{Op: api.Lui, Rd: 5, Imm: ram}, {Op: api.Lh, Rd: 6, Rs1: 5}, {Op: api.Sh, Rs1: 5, Rs2: 6, Imm: 8}, {Op: api.Addi, Rd: 6, Imm: -1}, {Op: api.Sb, Rs1: 5, Rs2: 6, Imm: 10}, stop}
)

// P34.1
func TestRun(t *testing.T) {
	bare := api.Image{Target: api.Target{Flash: flash, FlashSize: 4, RAM: ram, RAMSize: 4}, Entry: flash, Text: api.Region{Addr: flash, Size: 4}, Segs: []api.Seg{{Addr: flash, Data: []byte{0x73, 0, 0x10, 0}}}}
	b, _ := image.Write(bare)
	if out, n, err := harness.Run(b, nil); len(out) != 0 || n != 0 || err != api.OK {
		t.Error(out, n, err)
	}
	for i, x := range []struct {
		b    []byte
		x    []int8
		want []int8
		n    int
		err  api.Errno
	}{
		{written(t, 5, copies...), []int8{-128, 127}, []int8{-128, 127, -1}, 5, api.OK}, {written(t, 1<<64-1, copies...), []int8{3, 4}, []int8{3, 4, -1}, 5, api.OK},
		{written(t, 4, copies...), []int8{3, 4}, nil, 5, api.ErrRun}, {written(t, 0, copies...), []int8{3, 4}, nil, 1, api.ErrRun}, {written(t, 9, round), []int8{3, 4}, nil, 10, api.ErrRun}, {written(t, 9, call), []int8{3, 4}, nil, 0, api.ErrRun}, {written(t, 9, copies[0]), []int8{3, 4}, nil, 1, api.ErrRun},
		{written(t, 5, copies...), nil, nil, 0, api.ErrArg}, {written(t, 5, copies...), []int8{1}, nil, 0, api.ErrArg}, {written(t, 5, copies...), []int8{1, 2, 3}, nil, 0, api.ErrArg}, {nil, nil, nil, 0, api.ErrShort}, {append(written(t, 5, stop), 1), nil, nil, 0, api.ErrForm},
	} {
		kept, in := bytes.Clone(x.b), slices.Clone(x.x)
		out, n, err := harness.Run(x.b, x.x)
		if !slices.Equal(out, x.want) || n != x.n || err != x.err {
			t.Error(i, out, n, err)
		}
		if !bytes.Equal(x.b, kept) || !slices.Equal(x.x, in) {
			t.Error("changed", i)
		}
	}
}

// P34.2
func TestMany(t *testing.T) {
	b := written(t, 5, copies...)
	out, err := harness.Many(b, [][]int8{{1, 2}, {-3, -4}, {1, 2}})
	if !reflect.DeepEqual(out, [][]int8{{1, 2, -1}, {-3, -4, -1}, {1, 2, -1}}) || err != api.OK {
		t.Error(out, err)
	}
	for i, x := range []struct {
		b   []byte
		l   [][]int8
		err api.Errno
	}{{b, nil, api.OK}, {b[:50], nil, api.ErrShort}, {b[:50], [][]int8{{1}}, api.ErrShort}, {b, [][]int8{{1, 2}, {1}}, api.ErrArg}, {written(t, 3, copies...), [][]int8{{1, 2}, {1}}, api.ErrRun}, {written(t, 3, copies...), [][]int8{{1}, {1, 2}}, api.ErrArg}} {
		if out, err := harness.Many(x.b, x.l); len(out) != 0 || err != x.err {
			t.Error(i, out, err)
		}
	}
}

// P34.3
func TestSteps(t *testing.T) {
	for _, fuel := range []uint64{0, 7, 1<<64 - 1} {
		if n, err := harness.Steps(written(t, fuel, stop)); n != fuel || err != api.OK {
			t.Error(fuel, n, err)
		}
	}
	if n, err := harness.Steps([]byte("PNT1")); n != 0 || err != api.ErrShort {
		t.Error(n, err)
	}
}

// P34.1, P34.4: what is compiled, run again and again.
func TestAgain(t *testing.T) {
	target := api.Target{Flash: flash, FlashSize: 1 << 20, RAM: ram, RAMSize: 1 << 18}
	for seed := range uint64(10) {
		g := family.Net(seed, 6)
		code, _ := graph.Write(g)
		b, r, err := mcc.Compile(code, target, api.Options{Wide: true})
		if err != api.OK {
			t.Fatal(err)
		}
		for k := range uint64(3) {
			x := family.Input(g, k)
			want, _ := eval.Run(g, x)
			for range 2 {
				out, n, err := harness.Run(b, x)
				if !slices.Equal(out, want) || uint64(n) != r.Fuel || err != api.OK {
					t.Error(seed, out, want, n, err)
				}
			}
		}
	}
}
