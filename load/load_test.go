package load_test

import (
	"bytes"
	"reflect"
	"testing"

	"pintle/api"
	"pintle/cpu"
	"pintle/image"
	"pintle/load"
)

const (
	flash = 0x1000
	ram   = 0x20000000
)

// sample is an image of ebreak, with a segment in RAM, an input and an output.
func sample() api.Image {
	return api.Image{
		Target: api.Target{Flash: flash, FlashSize: 64, RAM: ram, RAMSize: 64},
		Entry:  flash + 8, Text: api.Region{Addr: flash + 8, Size: 4}, Stack: api.Region{Addr: ram + 64, Size: 16},
		Fuel: 7, Input: api.Region{Addr: ram + 8, Size: 5}, Output: api.Region{Addr: ram + 16, Size: 3}, Writes: []api.Region{{Addr: ram + 20, Size: 4}},
		Segs: []api.Seg{{Addr: flash + 4, Data: []byte{1, 2, 3, 4, 0x73, 0, 0x10, 0}}, {Addr: ram + 30, Data: []byte{5, 6}}},
	}
}

// P10.1, P10.3
func TestLoad(t *testing.T) {
	m := sample()
	c, err := load.Load(m)
	if err != api.OK || c.PC() != flash+8 || c.Reg(2) != ram+64 || c.Memory().Target() != m.Target {
		t.Fatal(err, c.PC(), c.Reg(2))
	}
	for i := range 32 {
		if i != 2 && c.Reg(i) != 0 {
			t.Error(i, c.Reg(i))
		}
	}
	for _, x := range []struct {
		addr uint32
		segs []api.Seg
	}{{flash, m.Segs[:1]}, {ram, m.Segs[1:]}} {
		want := make([]byte, 64)
		copy(want[x.segs[0].Addr-x.addr:], x.segs[0].Data)
		if got, _ := c.Memory().Get(x.addr, 64); !bytes.Equal(got, want) {
			t.Error(got, want)
		}
	}
	if _, trap := c.Step(); trap != api.TrapBreak {
		t.Error(trap)
	}
	m.Segs[1].Data[0] = 77
	if w, _ := c.Memory().Load(ram+30, 1); w != 5 {
		t.Error("what was handed in is kept")
	}
	m.Entry++
	if c, err := load.Load(m); c != nil || err != api.ErrMap {
		t.Error(c, err)
	}
	if c, err := load.Load(api.Image{}); c != nil || err != api.ErrMap {
		t.Error(c, err)
	}
}

// P10.1
func TestBoot(t *testing.T) {
	b, _ := image.Write(sample())
	c, m, err := load.Boot(b)
	if err != api.OK || !reflect.DeepEqual(m, sample()) || c.PC() != flash+8 || c.Reg(2) != ram+64 {
		t.Error(m, err)
	}
	other, _, _ := load.Boot(b)
	other.Memory().Store(ram, 1, 9)
	if w, _ := c.Memory().Load(ram, 1); w != 0 {
		t.Error("two machines know one another")
	}
	for i, x := range []struct {
		b   []byte
		err api.Errno
	}{{nil, api.ErrShort}, {b[:len(b)-1], api.ErrShort}, {append([]byte("PNT2"), b[4:]...), api.ErrForm}, {append(bytes.Clone(b), 1), api.ErrForm}, {append(bytes.Clone(b[:len(b)-1]), b[len(b)-1]+1), api.ErrSum}} {
		if c, m, err := load.Boot(x.b); c != nil || !reflect.DeepEqual(m, api.Image{}) || err != x.err {
			t.Error(i, err)
		}
	}
}

// P10.2
func TestInput(t *testing.T) {
	m := sample()
	c, _ := load.Load(m)
	if err := load.Input(c, m, []byte{1, 2, 3, 4, 5}); err != api.OK {
		t.Error(err)
	}
	if b, _ := c.Memory().Get(ram+7, 7); !bytes.Equal(b, []byte{0, 1, 2, 3, 4, 5, 0}) {
		t.Error(b)
	}
	at := func(addr, size uint32) api.Image { return api.Image{Input: api.Region{Addr: addr, Size: size}} }
	for i, x := range []struct {
		c   *cpu.Machine
		m   api.Image
		n   int
		err api.Errno
	}{
		{nil, m, 5, api.ErrArg}, {nil, api.Image{}, 0, api.ErrArg}, {c, m, 4, api.ErrArg}, {c, m, 6, api.ErrArg}, {c, m, 0, api.ErrArg},
		{c, at(ram+62, 3), 3, api.ErrMap}, {c, at(ram+62, 3), 2, api.ErrArg}, {c, at(0, 1), 1, api.ErrMap}, {c, at(ram-1, 2), 2, api.ErrMap}, {c, at(1<<32-1, 2), 2, api.ErrMap}, {c, at(ram+61, 3), 3, api.OK}, {c, at(flash, 3), 3, api.OK}, {c, at(0, 0), 0, api.OK}, {new(cpu.Machine), at(0, 1), 1, api.ErrMap},
	} {
		if err := load.Input(x.c, x.m, make([]byte, x.n)); err != x.err {
			t.Error(i, err)
		}
	}
}

// P10.2
func TestOutput(t *testing.T) {
	m := sample()
	c, _ := load.Load(m)
	c.Memory().Put(ram+16, []byte{7, 8, 9})
	b, err := load.Output(c, m)
	if err != api.OK || !bytes.Equal(b, []byte{7, 8, 9}) {
		t.Error(b, err)
	}
	b[0] = 1
	if again, _ := load.Output(c, m); again[0] != 7 {
		t.Error("shared")
	}
	at := func(addr, size uint32) api.Image { return api.Image{Output: api.Region{Addr: addr, Size: size}} }
	for i, x := range []struct {
		c   *cpu.Machine
		m   api.Image
		err api.Errno
	}{{nil, m, api.ErrArg}, {c, at(ram+62, 3), api.ErrMap}, {c, at(0, 1), api.ErrMap}, {c, at(1<<32-1, 1<<32-1), api.ErrMap}, {c, at(0, 0), api.OK}, {c, at(flash+61, 3), api.OK}} {
		b, err := load.Output(x.c, x.m)
		if err != x.err || len(b) > 0 != (x.err == api.OK && x.m.Output.Size > 0) {
			t.Error(i, b, err)
		}
	}
}
