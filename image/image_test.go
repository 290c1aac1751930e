package image_test

import (
	"bytes"
	"reflect"
	"testing"

	"pintle/api"
	"pintle/crc"
	"pintle/image"
)

const (
	flash = 0x1000
	ram   = 0x20000000
)

// bare is an image of one instruction, ebreak.
func bare() api.Image {
	return api.Image{
		Target: api.Target{Flash: flash, FlashSize: 256, RAM: ram, RAMSize: 256},
		Entry:  flash,
		Text:   api.Region{Addr: flash, Size: 4},
		Segs:   []api.Seg{{Addr: flash, Data: []byte{0x73, 0, 0x10, 0}}},
	}
}

// full has all that an image may have.
func full() api.Image {
	m := bare()
	m.Entry = flash + 20
	m.Text = api.Region{Addr: flash + 16, Size: 8}
	m.Stack = api.Region{Addr: ram + 256, Size: 32}
	m.RAM = 200
	m.Fuel = 0x123456789abcdef0
	m.Input = api.Region{Addr: ram, Size: 5}
	m.Output = api.Region{Addr: ram + 8, Size: 3}
	m.Writes = []api.Region{{Addr: ram + 12, Size: 20}, {Addr: ram + 5, Size: 3}, {}}
	m.Segs = []api.Seg{{Addr: flash, Data: []byte{1, 2, 3}}, {Addr: flash + 4, Data: bytes.Repeat([]byte{9}, 28)}, {Addr: ram + 64, Data: []byte{7, 8, 9}}}
	return m
}

// P9.1
func TestValid(t *testing.T) {
	for i, change := range []func(m *api.Image){
		func(m *api.Image) {},
		func(m *api.Image) { m.Entry = flash + 16 },
		func(m *api.Image) { m.RAM = 256 },
		func(m *api.Image) { m.Stack = api.Region{} },
		func(m *api.Image) { m.Stack = api.Region{Addr: 1<<32 - 16} },
		func(m *api.Image) { m.Stack = api.Region{Addr: ram + 96, Size: 16} },
		func(m *api.Image) { m.Input = api.Region{Addr: 1<<32 - 1} },
		func(m *api.Image) { m.Input = api.Region{Addr: ram + 64, Size: 3} },
		func(m *api.Image) { m.Output = api.Region{Addr: ram + 12, Size: 10} },
		func(m *api.Image) { m.Output = api.Region{Addr: ram + 65, Size: 10} },
		func(m *api.Image) { m.Output = api.Region{Addr: 3} },
		func(m *api.Image) { m.Writes = nil },
		func(m *api.Image) { m.Writes = make([]api.Region, 8) },
		func(m *api.Image) { m.Writes[1] = api.Region{Addr: ram + 12, Size: 20} },
		func(m *api.Image) { m.Segs[0].Data = append(m.Segs[0].Data, 4) },
		func(m *api.Image) { m.Segs[1].Addr = flash + 3; m.Segs[1].Data = append(m.Segs[1].Data, 4) },
		func(m *api.Image) { m.Segs[2] = api.Seg{Addr: flash + 255, Data: []byte{1}} },
		func(m *api.Image) { m.Segs = append(m.Segs, eight(5)...) },
		func(m *api.Image) { m.Text = api.Region{Addr: flash + 4, Size: 28}; m.Entry = flash + 28 },
		func(m *api.Image) { m.Fuel = 1<<64 - 1 },
		// One right behind the other, either way.
		func(m *api.Image) {
			m.Input, m.Output = api.Region{Addr: ram + 3, Size: 5}, api.Region{Addr: ram, Size: 3}
			m.Writes[1].Addr, m.Writes[1].Size = ram+8, 4
		},
		func(m *api.Image) { m.Writes[2] = api.Region{Addr: ram + 200, Size: 24} },
		func(m *api.Image) { m.Segs[2].Addr = ram + 221 },
		func(m *api.Image) { m.Stack = api.Region{Addr: ram + 64, Size: 16} },
	} {
		m := full()
		change(&m)
		b, err := image.Write(m)
		if !image.Valid(m) || err != api.OK || len(b) == 0 {
			t.Error("not valid", i, err)
		}
	}
	if !image.Valid(bare()) {
		t.Error("bare")
	}
	low := bare()
	low.Target.Flash, low.Entry, low.Text.Addr, low.Segs[0].Addr = 0, 0, 0, 0
	if !image.Valid(low) {
		t.Error("at 0")
	}
}

// eight are n segments of a byte behind full's.
func eight(n int) []api.Seg {
	var l []api.Seg
	for i := range n {
		l = append(l, api.Seg{Addr: ram + 100 + uint32(i), Data: []byte{1}})
	}
	return l
}

// P9.1, P9.3
func TestNotValid(t *testing.T) {
	for i, change := range []func(m *api.Image){
		func(m *api.Image) { m.Target = api.Target{} },
		func(m *api.Image) { m.Target.RAM = flash },
		func(m *api.Image) { m.Segs = nil },
		func(m *api.Image) { m.Segs = append(m.Segs, eight(6)...) },
		func(m *api.Image) { m.Segs[0].Data = nil },
		func(m *api.Image) { m.Segs[0].Data = make([]byte, 5) },
		func(m *api.Image) { m.Segs[0], m.Segs[1] = m.Segs[1], m.Segs[0] },
		func(m *api.Image) { m.Segs[2].Addr = flash },
		func(m *api.Image) { m.Segs[0].Addr = flash - 1 },
		func(m *api.Image) { m.Segs[2] = api.Seg{Addr: flash + 255, Data: []byte{1, 2}} },
		func(m *api.Image) { m.Segs[2] = api.Seg{Addr: ram + 254, Data: []byte{1, 2, 3}} },
		func(m *api.Image) { m.Segs[2] = api.Seg{Addr: 1<<32 - 1, Data: []byte{1, 2, 3}} },
		func(m *api.Image) { m.Text.Size = 0 },
		func(m *api.Image) { m.Text.Size = 6 },
		func(m *api.Image) { m.Text.Addr += 2 },
		func(m *api.Image) { m.Text.Size = 20 },
		func(m *api.Image) { m.Text.Size = 1<<32 - 4 },
		func(m *api.Image) { m.Text.Addr = flash },
		func(m *api.Image) { m.Segs[2].Data = make([]byte, 8); m.Text.Addr = ram + 64; m.Entry = ram + 64 },
		func(m *api.Image) { m.Entry = flash + 12 },
		func(m *api.Image) { m.Entry = flash + 24 },
		func(m *api.Image) { m.Entry = flash + 18 },
		func(m *api.Image) { m.Stack.Size = 8 },
		func(m *api.Image) { m.Stack.Addr = ram + 248 },
		func(m *api.Image) { m.Stack = api.Region{Addr: ram + 8} },
		func(m *api.Image) { m.Stack.Addr = ram + 272 },
		func(m *api.Image) { m.Stack = api.Region{Addr: ram + 16, Size: 32} },
		func(m *api.Image) { m.Stack = api.Region{Addr: 0, Size: 16} },
		func(m *api.Image) { m.Stack = api.Region{Addr: flash + 64, Size: 16} },
		func(m *api.Image) { m.Stack = api.Region{Addr: ram + 80, Size: 16} },
		func(m *api.Image) { m.Stack = api.Region{Addr: ram + 32, Size: 16} },
		func(m *api.Image) { m.Output = api.Region{Addr: ram + 220, Size: 5} },
		func(m *api.Image) { m.Writes[2] = api.Region{Addr: ram + 224, Size: 1} },
		func(m *api.Image) { m.Input = api.Region{Addr: ram + 240, Size: 1} },
		func(m *api.Image) { m.Input.Size = 6 },
		func(m *api.Image) { m.Input = api.Region{Addr: ram + 8, Size: 1} },
		func(m *api.Image) { m.Input = api.Region{Addr: ram + 255, Size: 2} },
		func(m *api.Image) { m.Input = api.Region{Addr: flash + 64, Size: 2} },
		func(m *api.Image) { m.Output = api.Region{Addr: ram - 1, Size: 2} },
		func(m *api.Image) { m.Writes = make([]api.Region, 9) },
		func(m *api.Image) { m.Writes[2] = api.Region{Addr: flash, Size: 4} },
		func(m *api.Image) { m.Writes[2] = api.Region{Addr: ram + 4, Size: 1} },
		func(m *api.Image) { m.RAM = 257 },
		func(m *api.Image) { *m = api.Image{} },
	} {
		m := full()
		change(&m)
		b, err := image.Write(m)
		if image.Valid(m) || err != api.ErrMap || b != nil {
			t.Error("valid", i, err)
		}
	}
}

// P9.2
func TestBytes(t *testing.T) {
	b, err := image.Write(bare())
	if len(b) != 92 || err != api.OK {
		t.Fatal(len(b), err)
	}
	m := full()
	m.Writes, m.Segs = m.Writes[:1], m.Segs[1:2]
	b, err = image.Write(m)
	word := func(w uint32) []byte { return []byte{byte(w), byte(w >> 8), byte(w >> 16), byte(w >> 24)} }
	want := []byte{0x50, 0x4e, 0x54, 0x31}
	for _, w := range []uint32{flash, 256, ram, 256, flash + 20, flash + 16, 8, ram + 256, 32, 200, 0x9abcdef0, 0x12345678, ram, 5, ram + 8, 3, 1, 1, ram + 12, 20, flash + 4, 28} {
		want = append(want, word(w)...)
	}
	want = append(want, bytes.Repeat([]byte{9}, 28)...)
	want = append(want, word(crc.Sum(want))...)
	if !bytes.Equal(b, want) || err != api.OK {
		t.Errorf("%x, not %x", b, want)
	}
}

// P9.3: the errors, in their order.
func TestParseWrong(t *testing.T) {
	good, _ := image.Write(full())
	set := func(at int, w uint32) func([]byte) []byte {
		return func(b []byte) []byte {
			copy(b[at:], []byte{byte(w), byte(w >> 8), byte(w >> 16), byte(w >> 24)})
			return b
		}
	}
	sum := func(b []byte) []byte {
		n := len(b) - 4
		return set(n, crc.Sum(b[:n]))(b)
	}
	for i, x := range []struct {
		change func(b []byte) []byte
		err    api.Errno
	}{
		{func(b []byte) []byte { return nil }, api.ErrShort},
		{func(b []byte) []byte { return set(0, 5)(b)[:79] }, api.ErrShort},
		{func(b []byte) []byte { return set(72, 99)(set(0, 5)(b)) }, api.ErrForm},
		{func(b []byte) []byte { return b[:80] }, api.ErrShort},
		{func(b []byte) []byte { return set(68, 9)(b)[:80] }, api.ErrLong},
		{set(68, 9), api.ErrLong}, {set(72, 9), api.ErrLong}, {set(68, 1<<32-1), api.ErrLong},
		{set(68, 8), api.ErrShort}, {set(72, 8), api.ErrShort}, {set(104, 1<<32-1), api.ErrShort}, {set(104, 300), api.ErrShort},
		{set(72, 2), api.ErrForm}, {set(72, 0), api.ErrForm},
		{func(b []byte) []byte { return append(b, 0) }, api.ErrForm},
		{set(20, 5), api.ErrSum},
		{func(b []byte) []byte { return sum(set(20, 5)(b)) }, api.ErrMap},
		{func(b []byte) []byte { return sum(set(40, 1000)(b)) }, api.ErrMap},
		{func(b []byte) []byte { return sum(set(36, 1000)(b)) }, api.ErrMap},
	} {
		m, err := image.Parse(x.change(bytes.Clone(good)))
		if !reflect.DeepEqual(m, api.Image{}) || err != x.err {
			t.Error(i, m, err)
		}
	}
	none := api.Image{Target: full().Target}
	head := append([]byte("PNT1"), make([]byte, 72+4)...)
	set(4, none.Target.Flash)(head)
	if _, err := image.Parse(sum(head)); err != api.ErrMap {
		t.Error("no segments", err)
	}
}

// P9.4
func TestThereAndBack(t *testing.T) {
	for i, m := range []api.Image{bare(), full()} {
		b, _ := image.Write(m)
		kept := bytes.Clone(b)
		back, err := image.Parse(b)
		if !reflect.DeepEqual(back, m) || err != api.OK {
			t.Error(i, back, err)
		}
		back.Segs[0].Data[0]++
		if len(back.Segs) > 1 {
			_ = append(back.Segs[0].Data, 77, 77, 77, 77, 77)
		}
		again, _ := image.Parse(b)
		if !bytes.Equal(b, kept) || !reflect.DeepEqual(again, m) {
			t.Error("shared", i)
		}
		if c, err := image.Write(again); !bytes.Equal(b, c) || err != api.OK {
			t.Error(i, err)
		}
	}
}

// P9.5
func TestSpoilt(t *testing.T) {
	for _, m := range []api.Image{bare(), full()} {
		b, _ := image.Write(m)
		fails := func(c []byte) {
			t.Helper()
			if x, err := image.Parse(c); err == api.OK || !reflect.DeepEqual(x, api.Image{}) {
				t.Error(err)
			}
		}
		for i := range b {
			fails(b[:i])
			for _, n := range []uint32{1, 0x80, 0xff, 0xffff, 0x1234567, 1<<32 - 1} {
				c := bytes.Clone(b)
				for k := 0; k < 4 && i+k < len(b); k++ {
					c[i+k] ^= byte(n >> (8 * k))
				}
				fails(c)
			}
		}
		for x := range 256 {
			fails(append(bytes.Clone(b), byte(x)))
		}
	}
}
