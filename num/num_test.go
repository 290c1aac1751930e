package num_test

import (
	"math/big"
	"testing"

	"pintle/api"
	"pintle/num"
)

const top = uint32(1<<32 - 1)

// edges are words at which sums, products and quotients turn over.
var edges = []uint32{0, 1, 2, 3, 5, 7, 31, 32, 33, 100, 1 << 15, 1<<16 - 1, 1 << 16, 1<<31 - 2, 1<<31 - 1, 1 << 31, 1<<31 + 1, top - 6, top - 2, top - 1, top, 0x12345678, 0xdeadbeef}

// P1.1
func TestSext(t *testing.T) {
	for i, x := range []struct {
		w    uint32
		bits int
		want uint32
	}{
		{0xfff, 12, top}, {0x7ff, 12, 0x7ff}, {0x800, 12, 0xfffff800}, {5, 0, 0}, {5, -1, 0}, {top, -1 << 63, 0}, {top, 32, top}, {5, 31, 5}, {1 << 30, 31, 3 << 30},
		{1 << 31, 32, 1 << 31}, {1 << 31, 33, 1 << 31}, {7, 1<<63 - 1, 7}, {3, 1, top}, {2, 1, 0}, {0xabcd1234, 8, 0x34}, {0xabcd1284, 8, 0xffffff84},
	} {
		if w := num.Sext(x.w, x.bits); w != x.want {
			t.Errorf("%d: %x, not %x", i, w, x.want)
		}
	}
	for _, x := range []struct {
		w uint32
		n int32
	}{{0, 0}, {top, -1}, {1 << 31, -1 << 31}, {1<<31 - 1, 1<<31 - 1}} {
		if n := num.Signed(x.w); n != x.n {
			t.Error(x.w, n)
		}
	}
}

// whole tells op by numbers without bounds, as the chapter's words say it.
func whole(op int, a, b uint32) uint32 {
	ua, ub := big.NewInt(int64(a)), big.NewInt(int64(b))
	sa, sb := big.NewInt(int64(int32(a))), big.NewInt(int64(int32(b)))
	word := func(n *big.Int) uint32 {
		m := new(big.Int).And(n, big.NewInt(1<<32-1))
		return uint32(m.Uint64())
	}
	high := func(x, y *big.Int) uint32 {
		p := new(big.Int).Mul(x, y)
		return word(p.Rsh(p, 32))
	}
	less := func(x, y *big.Int) uint32 {
		if x.Cmp(y) < 0 {
			return 1
		}
		return 0
	}
	by := uint(b % 32)
	switch op {
	case api.Add:
		return word(new(big.Int).Add(ua, ub))
	case api.Sub:
		return word(new(big.Int).Sub(ua, ub))
	case api.Sll:
		return word(new(big.Int).Lsh(ua, by))
	case api.Slt:
		return less(sa, sb)
	case api.Sltu:
		return less(ua, ub)
	case api.Xor:
		return word(new(big.Int).Xor(ua, ub))
	case api.Srl:
		return word(new(big.Int).Rsh(ua, by))
	case api.Sra:
		return word(new(big.Int).Rsh(sa, by))
	case api.Or:
		return word(new(big.Int).Or(ua, ub))
	case api.And:
		return word(new(big.Int).And(ua, ub))
	case api.Mul:
		return word(new(big.Int).Mul(ua, ub))
	case api.Mulh:
		return high(sa, sb)
	case api.Mulhsu:
		return high(sa, ub)
	case api.Mulhu:
		return high(ua, ub)
	}
	x, y := ua, ub
	if op == api.Div || op == api.Rem {
		x, y = sa, sb
	}
	q, r := big.NewInt(1<<32-1), x
	if b != 0 {
		q, r = new(big.Int).QuoRem(x, y, new(big.Int))
	}
	if op == api.Div || op == api.Divu {
		return word(q)
	}
	return word(r)
}

// P1.2
func TestAlu(t *testing.T) {
	for op := api.Add; op <= api.Remu; op++ {
		for _, a := range edges {
			for _, b := range edges {
				if w, ok := num.Alu(op, a, b); w != whole(op, a, b) || !ok {
					t.Errorf("op %d of %x, %x: %x, %v, not %x", op, a, b, w, ok, whole(op, a, b))
				}
			}
		}
	}
	for _, op := range []int{0, -1, api.Remu + 1, api.Ebreak, 1 << 40, -1 << 63} {
		if w, ok := num.Alu(op, 3, 1); w != 0 || ok {
			t.Error(op, w, ok)
		}
	}
	for i, x := range []struct {
		op         int
		a, b, want uint32
	}{{api.Div, top - 6, 2, top - 2}, {api.Rem, top - 6, 2, top}, {api.Div, 1 << 31, top, 1 << 31}, {api.Rem, 1 << 31, top, 0}, {api.Div, 9, 0, top}, {api.Rem, 9, 0, 9}, {api.Divu, 9, 0, top}, {api.Remu, 9, 0, 9}} {
		if w, ok := num.Alu(x.op, x.a, x.b); w != x.want || !ok {
			t.Error(i, w, ok)
		}
	}
}

func alu(op int, a, b uint32) uint32 {
	w, _ := num.Alu(op, a, b)
	return w
}

// P1.3
func TestQuotientAndRest(t *testing.T) {
	for _, a := range edges {
		for _, b := range edges {
			if alu(api.Divu, a, b)*b+alu(api.Remu, a, b) != a || alu(api.Div, a, b)*b+alu(api.Rem, a, b) != a {
				t.Errorf("%x by %x", a, b)
			}
		}
	}
}

// P1.4
func TestProduct(t *testing.T) {
	for _, a := range edges {
		for _, b := range edges {
			p := int64(uint64(alu(api.Mulh, a, b))<<32 | uint64(alu(api.Mul, a, b)))
			if p != int64(num.Signed(a))*int64(num.Signed(b)) {
				t.Errorf("%x times %x: %x", a, b, p)
			}
		}
	}
}
