package safe_test

import (
	"testing"

	"pintle/api"
	"pintle/asm"
	"pintle/exec"
	"pintle/family"
	"pintle/graph"
	"pintle/image"
	"pintle/load"
	"pintle/mcc"
	"pintle/safe"
)

const (
	flash = 0x10000
	ram   = 0x20000000
)

func sample() api.Image {
	return api.Image{
		Target: api.Target{Flash: flash, FlashSize: 256, RAM: ram, RAMSize: 256},
		Entry:  flash, Text: api.Region{Addr: flash, Size: 8}, Stack: api.Region{Addr: ram + 256, Size: 32},
		Input: api.Region{Addr: ram, Size: 2}, Output: api.Region{Addr: ram + 8, Size: 4}, Writes: []api.Region{{Addr: ram + 16, Size: 4}, {Addr: ram + 20, Size: 4}},
		Segs: []api.Seg{{Addr: flash, Data: make([]byte, 12)}},
	}
}

// P35.1
func TestStep(t *testing.T) {
	const top = ram + 256
	store := func(addr uint32, size int) api.Event {
		return api.Event{PC: flash + 4, Kind: api.DidStore, Addr: addr, Size: size}
	}
	read := func(addr uint32, size int) api.Event {
		return api.Event{PC: flash, Kind: api.DidLoad, Addr: addr, Size: size}
	}
	for i, x := range []struct {
		sp   uint32
		e    api.Event
		want int
	}{
		{top, api.Event{PC: flash}, 0}, {top - 32, api.Event{PC: flash + 4}, 0}, {top - 7, api.Event{PC: flash + 4}, 0}, {top + 1, api.Event{PC: flash}, api.WrongStack}, {top - 33, api.Event{PC: 0}, api.WrongStack}, {0, store(0, 4), api.WrongStack}, {1<<32 - 1, api.Event{PC: flash}, api.WrongStack},
		{top, api.Event{PC: flash + 5}, api.WrongFetch}, {top, api.Event{PC: flash + 8}, api.WrongFetch}, {top, api.Event{PC: flash - 1}, api.WrongFetch}, {top, api.Event{PC: 1<<32 - 1}, api.WrongFetch}, {top, api.Event{Kind: api.DidStore, Size: 4}, api.WrongFetch},
		{top, store(ram+8, 4), 0}, {top, store(ram+8, 1), 0}, {top, store(ram+10, 4), api.WrongStore}, {top, store(ram+7, 1), api.WrongStore}, {top, store(ram+16, 4), 0}, {top, store(ram+20, 4), 0}, {top, store(ram+18, 4), api.WrongStore}, {top, store(ram, 1), api.WrongStore}, {top, store(flash, 1), api.WrongStore}, {top, store(top-32, 4), 0}, {top, store(top-4, 4), 0}, {top, store(top-33, 1), api.WrongStore}, {top, store(top, 1), api.WrongStore}, {top, store(top-2, 4), api.WrongStore},
		{top, read(ram, 2), 0}, {top, read(ram+1, 2), api.WrongLoad}, {top, read(ram+2, 1), api.WrongLoad}, {top, read(ram+8, 4), 0}, {top, read(ram+16, 4), 0}, {top, read(top-32, 4), 0}, {top, read(flash+8, 4), 0}, {top, read(flash+9, 4), api.WrongLoad}, {top, read(flash+12, 1), api.WrongLoad}, {top, read(1<<32-1, 4), api.WrongLoad}, {top, read(0, 1<<63-1), api.WrongLoad}, {top, read(0, 0), 0}, {top, store(0, 0), 0}, {top, store(0, -1), 0},
	} {
		if got := safe.Step(sample(), x.sp, x.e); got != x.want {
			t.Error(i, got, x.want)
		}
	}
	if got := safe.Step(api.Image{}, 0, api.Event{}); got != api.WrongFetch {
		t.Error(got)
	}
	low := api.Image{Stack: api.Region{Addr: 16, Size: 64}, Text: api.Region{Addr: 1<<32 - 4, Size: 8}}
	if got := safe.Step(low, 0, api.Event{PC: 1<<32 - 4}); got != api.WrongNone {
		t.Error(got)
	}
}

// written has instructions as its text.
func written(t *testing.T, fuel uint64, l ...api.Ins) []byte {
	t.Helper()
	var items []api.Item
	for _, i := range l {
		items = append(items, api.Item{Kind: api.ItemIns, Ins: i})
	}
	words, _ := asm.Words(flash, items)
	m := sample()
	m.Segs[0].Data, m.Text.Size, m.Fuel = nil, uint32(4*len(words)), fuel
	for _, w := range words {
		m.Segs[0].Data = append(m.Segs[0].Data, byte(w), byte(w>>8), byte(w>>16), byte(w>>24))
	}
	m.Segs[0].Data = append(m.Segs[0].Data, 0x73, 0, 0x10, 0)
	b, err := image.Write(m)
	if err != api.OK {
		t.Fatal(err)
	}
	return b
}

func addi(rd, rs int, n int32) api.Ins { return api.Ins{Op: api.Addi, Rd: rd, Rs1: rs, Imm: n} }

var (
	stop  = api.Ins{Op: api.Ebreak}
	call  = api.Ins{Op: api.Ecall}
	round = api.Ins{Op: api.Jal}
	base  = api.Ins{Op: api.Lui, Rd: 5, Imm: ram}
)

func access(op, rs1 int, n int32) api.Ins {
	if op >= api.Sb {
		return api.Ins{Op: op, Rs1: rs1, Rs2: 6, Imm: n}
	}
	return api.Ins{Op: op, Rd: 6, Rs1: rs1, Imm: n}
}

// P35.2
func TestRun(t *testing.T) {
	in := []int8{1, 2}
	for i, x := range []struct {
		b    []byte
		want api.Watch
	}{
		{written(t, 5, stop), api.Watch{}}, {written(t, 0, stop), api.Watch{}},
		{written(t, 9, base, access(api.Lb, 5, 1), access(api.Sb, 5, 9), addi(2, 2, -16), access(api.Sw, 2, 4), addi(2, 2, 8), stop), api.Watch{Steps: 6, Loads: 1, Stores: 2, Deep: 16}},
		{written(t, 2, addi(1, 0, 1), addi(1, 0, 2), stop), api.Watch{Steps: 2}}, {written(t, 1, addi(1, 0, 1), addi(1, 0, 2), stop), api.Watch{Steps: 1, Wrong: api.WrongFuel}}, {written(t, 1, addi(1, 0, 1), call), api.Watch{Steps: 1, Wrong: api.WrongFuel}}, {written(t, 2, addi(1, 0, 1), call), api.Watch{Steps: 1, Wrong: api.WrongTrap}},
		{written(t, 2, addi(1, 0, 1), access(api.Lw, 1, 0)), api.Watch{Steps: 1, Wrong: api.WrongTrap}}, {written(t, 7, addi(2, 2, -33), stop), api.Watch{Steps: 1, Deep: 33, Wrong: api.WrongStack}}, {written(t, 7, addi(2, 2, 16), stop), api.Watch{Steps: 1, Wrong: api.WrongStack}}, {written(t, 7, addi(2, 2, -32), addi(2, 0, 0), stop), api.Watch{Steps: 2, Deep: ram + 256, Wrong: api.WrongStack}},
		{written(t, 7, base, access(api.Sb, 5, 0), addi(1, 0, 1), stop), api.Watch{Steps: 2, Stores: 1, Wrong: api.WrongStore}}, {written(t, 7, base, access(api.Lw, 5, 4), addi(1, 0, 1), stop), api.Watch{Steps: 2, Loads: 1, Wrong: api.WrongLoad}},
		// Behind the text an Ebreak lies: one gets there, but that step is not done; one goes on, if it is no text.
		{written(t, 7, addi(1, 0, 1)), api.Watch{Steps: 1}}, {written(t, 7, base, api.Ins{Op: api.Jalr, Rs1: 5, Imm: 16}), api.Watch{Steps: 2, Wrong: api.WrongTrap}},
		{written(t, 1<<63, round), api.Watch{Steps: 1 << 20, Wrong: api.WrongFuel}},
	} {
		got, err := safe.Run(x.b, in)
		x.want.Path = path(x.b, in, x.want.Steps)
		if got != x.want || err != api.OK {
			t.Errorf("%d: %+v, not %+v, %v", i, got, x.want, err)
		}
	}
	good := written(t, 5, stop)
	for i, x := range []struct {
		b   []byte
		x   []int8
		err api.Errno
	}{{nil, in, api.ErrShort}, {good[:len(good)-1], nil, api.ErrShort}, {good, nil, api.ErrArg}, {good, []int8{1, 2, 3}, api.ErrArg}, {append(good, 1), nil, api.ErrForm}} {
		w, err := safe.Run(x.b, x.x)
		same, too := safe.Alike(x.b, x.x, in)
		if w != (api.Watch{}) || err != x.err || same || too != x.err {
			t.Error(i, w, err, too)
		}
	}
	if same, err := safe.Alike(good, in, nil); same || err != api.ErrArg {
		t.Error(same, err)
	}
}

// path tells the number of the way by steps of its own.
func path(b []byte, x []int8, steps int) uint32 {
	c, m, _ := load.Boot(b)
	load.Input(c, m, []byte{byte(x[0]), byte(x[1])})
	if steps <= api.MaxTrace {
		way, _ := exec.Path(c, steps)
		return way
	}
	way := uint32(2166136261)
	for range steps {
		e, _ := c.Step()
		for _, w := range []uint32{e.PC, uint32(e.Kind), e.Addr, uint32(e.Size)} {
			way = (way ^ w) * 16777619
		}
	}
	return way
}

// P35.3
func TestAlike(t *testing.T) {
	// The way hangs on the input's first byte: where it is not 0, a step is left out.
	b := written(t, 9, base, access(api.Lb, 5, 0), api.Ins{Op: api.Bne, Rs1: 6, Imm: 8}, addi(1, 0, 1), stop)
	other := written(t, 9, base, access(api.Lb, 5, 0), api.Ins{Op: api.Add, Rd: 5, Rs1: 5, Rs2: 6}, access(api.Lb, 5, 0), stop)
	for i, x := range []struct {
		b    []byte
		x, y []int8
		want bool
	}{{b, []int8{1, 0}, []int8{2, 5}, true}, {b, []int8{0, 0}, []int8{0, 5}, true}, {b, []int8{0, 0}, []int8{1, 0}, false}, {other, []int8{0, 0}, []int8{1, 0}, false}, {other, []int8{1, 0}, []int8{1, 9}, true}, {other, []int8{8, 0}, []int8{8, 9}, true}, {other, []int8{90, 0}, []int8{91, 0}, false}} {
		if same, err := safe.Alike(x.b, x.x, x.y); same != x.want || err != api.OK {
			t.Error(i, same, err)
		}
	}
}

// P35.4
func TestCompiled(t *testing.T) {
	target := api.Target{Flash: flash, FlashSize: 1 << 20, RAM: ram, RAMSize: 1 << 18}
	stacks := 0
	for seed := range uint64(40) {
		g := family.Net(seed, 8)
		code, _ := graph.Write(g)
		b, r, err := mcc.Compile(code, target, api.Options{Wide: seed%2 == 0, Over: seed%3 == 0})
		if err != api.OK {
			t.Fatal(err)
		}
		soft := false
		for _, n := range g.Nodes {
			soft = soft || n.Op == api.NSoftmax
		}
		x, y := family.Input(g, 1), family.Input(g, 2)
		w, err := safe.Run(b, x)
		if w.Wrong != 0 || uint64(w.Steps) != r.Fuel || int(w.Deep) != r.Stack || err != api.OK {
			t.Errorf("%+v %+v %v", w, r, err)
		}
		if same, err := safe.Alike(b, x, y); !same && !soft || err != api.OK {
			t.Error(seed, same, err)
		}
		if r.Stack > 0 {
			stacks++
		}
	}
	if stacks == 0 {
		t.Error("no program has a stack")
	}
}
