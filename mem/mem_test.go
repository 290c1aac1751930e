package mem_test

import (
	"bytes"
	"testing"

	"pintle/api"
	"pintle/mem"
)

var target = api.Target{Flash: 0x1000, FlashSize: 16, RAM: 0x2000, RAMSize: 32}

func made(t *testing.T, x api.Target) *mem.Memory {
	t.Helper()
	m, err := mem.New(x)
	if m == nil || err != api.OK {
		t.Fatal(x, err)
	}
	return m
}

// P5.1
func TestTarget(t *testing.T) {
	const top = 1<<32 - 4
	for _, x := range []api.Target{
		target, {Flash: 0, FlashSize: 4, RAM: 4, RAMSize: 4}, {Flash: 4, FlashSize: 4, RAM: 0, RAMSize: 4}, {Flash: 0, FlashSize: api.MaxMem, RAM: api.MaxMem, RAMSize: api.MaxMem},
		{Flash: top, FlashSize: 4, RAM: 0, RAMSize: 4}, {Flash: 0, FlashSize: 4, RAM: 1<<32 - api.MaxMem, RAMSize: api.MaxMem},
	} {
		if !mem.Can(x) || made(t, x).Target() != x {
			t.Error(x)
		}
	}
	for _, x := range []api.Target{
		{}, {Flash: 0, FlashSize: 0, RAM: 4, RAMSize: 4}, {Flash: 0, FlashSize: 4, RAM: 4, RAMSize: 0}, {Flash: 0, FlashSize: api.MaxMem + 4, RAM: 1 << 30, RAMSize: 4}, {Flash: 0, FlashSize: 4, RAM: 1 << 30, RAMSize: api.MaxMem + 4},
		{Flash: 2, FlashSize: 4, RAM: 64, RAMSize: 4}, {Flash: 0, FlashSize: 6, RAM: 64, RAMSize: 4}, {Flash: 0, FlashSize: 4, RAM: 65, RAMSize: 4}, {Flash: 0, FlashSize: 4, RAM: 64, RAMSize: 5},
		{Flash: top, FlashSize: 8, RAM: 64, RAMSize: 4}, {Flash: 0, FlashSize: 4, RAM: top, RAMSize: 8}, {Flash: 0, FlashSize: 8, RAM: 4, RAMSize: 8}, {Flash: 4, FlashSize: 8, RAM: 0, RAMSize: 8}, {Flash: 8, FlashSize: 8, RAM: 8, RAMSize: 8}, {Flash: 0, FlashSize: 64, RAM: 8, RAMSize: 8},
		{Flash: top, FlashSize: 1<<32 - 4, RAM: 64, RAMSize: 4},
	} {
		if m, err := mem.New(x); mem.Can(x) || m != nil || err != api.ErrArg {
			t.Error(x, err)
		}
	}
	m := made(t, target)
	if b, ok := m.Get(target.RAM, 32); !ok || !bytes.Equal(b, make([]byte, 32)) {
		t.Error(b, ok)
	}
}

// P5.2
func TestFetchLoadStore(t *testing.T) {
	m := made(t, target)
	const f, r = 0x1000, 0x2000
	m.Put(f, []byte{1, 2, 3, 4, 5, 6, 7, 8, 9, 10, 11, 12, 13, 14, 15, 0xf0})
	if trap := m.Store(r, 4, 0x01020304); trap != api.TrapNone {
		t.Error(trap)
	}
	if w, trap := m.Load(r+1, 1); w != 3 || trap != api.TrapNone {
		t.Error(w, trap)
	}
	for i, x := range []struct {
		addr uint32
		w    uint32
		trap int
	}{
		{f, 0x04030201, 0}, {f + 12, 0xf00f0e0d, 0}, {f + 16, 0, api.TrapFetch}, {f - 4, 0, api.TrapFetch}, {f + 2, 0, api.TrapAlign}, {f + 17, 0, api.TrapAlign}, {r, 0x01020304, 0}, {r + 28, 0, 0}, {r + 32, 0, api.TrapFetch}, {1<<32 - 4, 0, api.TrapFetch}, {1<<32 - 1, 0, api.TrapAlign},
	} {
		if w, trap := m.Fetch(x.addr); w != x.w || trap != x.trap {
			t.Error(i, w, trap)
		}
	}
	for i, x := range []struct {
		addr uint32
		size int
		w    uint32
		trap int
	}{
		{f + 15, 1, 0xf0, 0}, {f + 14, 2, 0xf00f, 0}, {f + 12, 4, 0xf00f0e0d, 0}, {f + 16, 1, 0, api.TrapLoad}, {f + 15, 2, 0, api.TrapAlign}, {f + 14, 4, 0, api.TrapAlign}, {f + 16, 4, 0, api.TrapLoad}, {f - 1, 1, 0, api.TrapLoad},
		{r + 2, 2, 0x0102, 0}, {r + 31, 1, 0, 0}, {r + 32, 1, 0, api.TrapLoad}, {r, 0, 0, api.TrapLoad}, {r, 3, 0, api.TrapLoad}, {r, 8, 0, api.TrapLoad}, {r, -1, 0, api.TrapLoad}, {r, 1 << 32, 0, api.TrapLoad}, {1, 3, 0, api.TrapLoad}, {1, 4, 0, api.TrapAlign}, {1<<32 - 1, 1, 0, api.TrapLoad}, {0, 4, 0, api.TrapLoad},
	} {
		if w, trap := m.Load(x.addr, x.size); w != x.w || trap != x.trap {
			t.Error(i, w, trap)
		}
	}
	for i, x := range []struct {
		addr uint32
		size int
		trap int
	}{
		{f, 4, api.TrapStore}, {f, 1, api.TrapStore}, {f + 1, 2, api.TrapAlign}, {r + 32, 1, api.TrapStore}, {r - 1, 1, api.TrapStore}, {r + 30, 4, api.TrapAlign}, {r, 3, api.TrapStore}, {r + 1, 3, api.TrapStore}, {r, 0, api.TrapStore}, {r, -4, api.TrapStore}, {1<<32 - 4, 4, api.TrapStore}, {r + 31, 1, 0}, {r + 28, 2, 0},
	} {
		if trap := m.Store(x.addr, x.size, 0xaabbccdd); trap != x.trap {
			t.Error(i, trap)
		}
	}
	if b, ok := m.Get(r+26, 6); !ok || !bytes.Equal(b, []byte{0, 0, 0xdd, 0xcc, 0, 0xdd}) {
		t.Error(b, ok)
	}
}

// P5.3
func TestPutGet(t *testing.T) {
	m := made(t, target)
	const f, r = 0x1000, 0x2000
	for i, x := range []struct {
		addr uint32
		n    int
		ok   bool
	}{
		{f, 16, true}, {f, 17, false}, {f + 15, 1, true}, {f + 15, 2, false}, {f - 1, 2, false}, {r, 32, true}, {r + 1, 32, false}, {r + 31, 1, true}, {0, 0, true}, {1<<32 - 1, 0, true}, {1<<32 - 1, 1, false}, {r, 5000, false},
	} {
		b := bytes.Repeat([]byte{byte(i + 1)}, x.n)
		if ok := m.Put(x.addr, b); ok != x.ok {
			t.Error(i, ok)
		}
		got, ok := m.Get(x.addr, x.n)
		if ok != x.ok || x.ok && !bytes.Equal(got, b) || !x.ok && got != nil {
			t.Error(i, got, ok)
		}
	}
	for _, n := range []int{-1, -1 << 63, 1 << 40, 1<<63 - 1} {
		if b, ok := m.Get(r, n); b != nil || ok {
			t.Error(n, b, ok)
		}
	}
	before, _ := m.Get(r, 32)
	if m.Put(r+20, make([]byte, 13)) {
		t.Error("beyond")
	}
	if after, _ := m.Get(r, 32); !bytes.Equal(before, after) {
		t.Error("changed")
	}
	given := []byte{9, 8, 7}
	m.Put(r, given)
	given[0] = 1
	got, _ := m.Get(r, 3)
	got[1] = 1
	if again, _ := m.Get(r, 3); !bytes.Equal(again, []byte{9, 8, 7}) {
		t.Error("shared", again)
	}
	side := made(t, api.Target{Flash: 0, FlashSize: 4, RAM: 4, RAMSize: 4})
	if _, ok := side.Get(2, 4); ok || side.Put(2, make([]byte, 4)) {
		t.Error("in both")
	}
}

// P5.3: a nil memory, and a zero one.
func TestNil(t *testing.T) {
	var m *mem.Memory
	if m.Target() != (api.Target{}) || m.Put(0, nil) || m.Store(1, 4, 0) != api.TrapStore {
		t.Error("target, put or store")
	}
	if w, trap := m.Fetch(1); w != 0 || trap != api.TrapFetch {
		t.Error("fetch")
	}
	if w, trap := m.Load(1, 4); w != 0 || trap != api.TrapLoad {
		t.Error("load")
	}
	if b, ok := m.Get(0, 0); b != nil || ok {
		t.Error("get")
	}
	zero := new(mem.Memory)
	zero.Fetch(0)
	zero.Load(0, 1)
	zero.Store(0, 1, 1)
	zero.Put(0, []byte{1})
	zero.Get(0, 1)
}

// P5.4
func TestKept(t *testing.T) {
	m, other := made(t, target), made(t, target)
	want := make([]byte, 32)
	for n := uint32(1); n < 3000; n++ {
		w := n * 2654435761
		size := 1 << (w >> 28 % 3)
		at := w >> 8 % 40 &^ uint32(size-1)
		trap := m.Store(0x2000+at, size, w)
		if at < 32 {
			for i := range size {
				want[at+uint32(i)] = byte(w >> (8 * i))
			}
		}
		if (trap == api.TrapNone) != (at < 32) {
			t.Fatal(at, size, trap)
		}
		m.Store(0x1000+at, size, w)
	}
	for i, x := range want {
		if w, _ := m.Load(0x2000+uint32(i), 1); w != uint32(x) {
			t.Error(i, w, x)
		}
	}
	if b, _ := m.Get(0x1000, 16); !bytes.Equal(b, make([]byte, 16)) {
		t.Error("flash is changed")
	}
	if b, _ := other.Get(0x2000, 32); !bytes.Equal(b, make([]byte, 32)) {
		t.Error("another memory is changed")
	}
}
