package imm_test

import (
	"testing"

	"pintle/api"
	"pintle/imm"
)

// named tells for each bit of a form's number, from 0 on, which bit of the word it is (-1: always 0), and behind them the highest one's.
func named(form int) []int {
	l := []int{}
	add := func(from, to int) {
		for i := from; i <= to; i++ {
			l = append(l, i)
		}
	}
	switch form {
	case api.FormI:
		add(20, 31)
	case api.FormS:
		add(7, 11)
		add(25, 31)
	case api.FormB:
		l = append(l, -1)
		add(8, 11)
		add(25, 30)
		l = append(l, 7, 31)
	case api.FormU:
		l = append(l, -1, -1, -1, -1, -1, -1, -1, -1, -1, -1, -1, -1)
		add(12, 31)
	case api.FormJ:
		l = append(l, -1)
		add(21, 30)
		l = append(l, 20)
		add(12, 19)
		l = append(l, 31)
	}
	return l
}

func slow(form int, w uint32) int32 {
	l := named(form)
	n := uint32(0)
	for i := range 32 {
		from := l[min(i, len(l)-1)]
		if from >= 0 && w>>from&1 == 1 {
			n |= 1 << i
		}
	}
	return int32(n)
}

func mask(form int) uint32 {
	m := uint32(0)
	for _, i := range named(form) {
		if i >= 0 {
			m |= 1 << i
		}
	}
	return m
}

func words() []uint32 {
	l := []uint32{0, 1<<32 - 1, 0x12345678, 0xfe000f80, 0x80000000, 0x7fffffff}
	for i := range 32 {
		l = append(l, 1<<i, ^(uint32(1) << i), 1<<31|1<<i)
	}
	for w := uint32(0x9e3779b9); len(l) < 3000; w = w*1664525 + 1013904223 {
		l = append(l, w)
	}
	return l
}

// P2.1
func TestGet(t *testing.T) {
	for form := api.FormI; form <= api.FormJ; form++ {
		for _, w := range words() {
			if n := imm.Get(form, w); n != slow(form, w) {
				t.Errorf("form %d of %x: %d, not %d", form, w, n, slow(form, w))
			}
		}
	}
	for _, form := range []int{0, -1, 6, 1 << 40, -1 << 63} {
		if n := imm.Get(form, 1<<32-1); n != 0 {
			t.Error(form, n)
		}
		if w, ok := imm.Put(form, 0); w != 0 || ok {
			t.Error(form, w, ok)
		}
	}
}

// P2.2
func TestPut(t *testing.T) {
	if w, ok := imm.Put(api.FormB, -2); w != 0xfe000f80 || !ok {
		t.Errorf("%x %v", w, ok)
	}
	for _, x := range []struct {
		form         int
		lo, hi, step int32
	}{
		{api.FormI, -2048, 2047, 1}, {api.FormS, -2048, 2047, 1}, {api.FormB, -4096, 4094, 2}, {api.FormU, -1 << 31, 1<<31 - 4096, 4096}, {api.FormJ, -1048576, 1048574, 2},
	} {
		for _, n := range []int32{x.lo, x.hi, 0, x.step, -x.step, 3 * x.step, x.lo + x.step, x.hi - x.step} {
			if w, ok := imm.Put(x.form, n); !ok || slow(x.form, w) != n || w&^mask(x.form) != 0 {
				t.Errorf("form %d of %d: %x %v", x.form, n, w, ok)
			}
		}
		wrong := []int32{1<<31 - 1, -1<<31 + 1}
		if x.form != api.FormU {
			wrong = append(wrong, x.lo-x.step, x.hi+x.step, -1<<31)
		}
		if x.step > 1 {
			wrong = append(wrong, x.lo+1, x.hi-1, 1, -1, 4095)
		}
		for _, n := range wrong {
			if w, ok := imm.Put(x.form, n); w != 0 || ok {
				t.Errorf("form %d of %d: %x %v", x.form, n, w, ok)
			}
		}
	}
}

// P2.3
func TestThereAndBack(t *testing.T) {
	for form := api.FormI; form <= api.FormJ; form++ {
		for _, w := range words() {
			n := imm.Get(form, w)
			back, ok := imm.Put(form, n)
			if !ok || back != w&mask(form) || imm.Get(form, back) != n {
				t.Errorf("form %d of %x: %x %v", form, w, back, ok)
			}
		}
	}
}
