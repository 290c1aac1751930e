package quant_test

import (
	"math/big"
	"slices"
	"testing"

	"pintle/api"
	"pintle/lir"
	"pintle/lirrun"
	"pintle/quant"
)

const (
	low  = -1 << 31
	high = 1<<31 - 1
)

var numbers = []int32{0, 1, -1, 2, -2, 3, 99, 100, 101, -100, -101, 127, -128, 12345, -54321, 1 << 16, 1 << 20, 1<<28 + 7, -1<<28 - 7, 1 << 29, -1 << 29, 1 << 30, -1 << 30, 1<<30 + 1, high - 1, high, low, low + 1}

// scale tells Scale by numbers without bounds, as the chapter's words say it.
func scale(n, mult int32, shift int) int32 {
	down := func(x *big.Int, by uint) *big.Int {
		q, _ := new(big.Int).DivMod(x, new(big.Int).Lsh(big.NewInt(1), by), new(big.Int))
		return q
	}
	word := func(x *big.Int) int32 {
		return int32(uint32(new(big.Int).And(x, big.NewInt(1<<32-1)).Uint64()))
	}
	p := new(big.Int).Mul(big.NewInt(int64(n)), big.NewInt(int64(mult)))
	m := word(down(p.Add(p, big.NewInt(1<<30)), 31))
	if shift == 0 {
		return m
	}
	sum := word(new(big.Int).Add(big.NewInt(int64(m)), new(big.Int).Lsh(big.NewInt(1), uint(shift-1))))
	return word(down(big.NewInt(int64(sum)), uint(shift)))
}

// P20.1
func TestScale(t *testing.T) {
	for _, x := range [][4]int32{{100, 1 << 30, 0, 50}, {101, 1 << 30, 0, 51}, {-101, 1 << 30, 0, -50}, {low, low, 0, low}, {high, high, 1, 1<<30 - 1}, {1000, 1 << 30, 2, 125}, {low, low, 31, -1}} {
		if got := quant.Scale(x[0], x[1], int(x[2])); got != x[3] {
			t.Error(x, got)
		}
	}
	for _, n := range numbers {
		for _, mult := range numbers {
			for _, shift := range []int{0, 1, 2, 7, 15, 30, 31} {
				if got := quant.Scale(n, mult, shift); got != scale(n, mult, shift) {
					t.Error(n, mult, shift, got)
				}
			}
		}
	}
	for _, shift := range []int{-1, 32, 1 << 40, -1 << 63} {
		if got := quant.Scale(1000, 1<<30, shift); got != 0 {
			t.Error(shift, got)
		}
	}
}

// P20.2
func TestClampAndByte(t *testing.T) {
	for _, x := range [][4]int32{{5, 0, 3, 3}, {-5, 0, 3, 0}, {2, 0, 3, 2}, {0, 0, 3, 0}, {3, 0, 3, 3}, {4, 9, 2, 9}, {10, 9, 2, 2}, {9, 9, 2, 2}, {low, high, low, high}} {
		if got := quant.Clamp(x[0], x[1], x[2]); got != x[3] {
			t.Error(x, got)
		}
	}
	for i, x := range []struct {
		n, mult      int32
		shift        int
		zero, lo, hi int32
		want         int32
	}{{100, 1 << 30, 0, 3, -128, 127, 53}, {1000, 1 << 30, 0, 3, -128, 127, 127}, {-1000, 1 << 30, 0, 3, -128, 127, -128}, {low, low, 0, -1, -128, 127, 127}, {high, high, 0, 127, -128, 127, -128}, {5, 5, 40, 7, 0, 9, 7}} {
		if got := quant.Byte(x.n, x.mult, x.shift, x.zero, x.lo, x.hi); got != x.want {
			t.Error(i, got)
		}
	}
}

// run does steps with all variables full of something and a the number n, and tells variables behind them.
func run(t *testing.T, l []api.Lop, a int, n int32) []uint32 {
	t.Helper()
	var first []api.Lop
	for v := range api.MaxVars {
		first = append(first, api.Lop{Op: api.LSet, D: v, Imm: int32(v*1000 + 7)})
	}
	first = append(first, api.Lop{Op: api.LSet, D: a, Imm: n})
	for _, x := range l {
		if x.Op >= api.LLoad8 {
			t.Fatal("loops, loads or stores", x)
		}
	}
	vars, _, _, err := lirrun.Run(append(first, l...), nil, 1000)
	if err != api.OK {
		t.Fatal(err)
	}
	return vars
}

// others tells whether all variables but some are as they were.
func others(vars []uint32, but ...int) bool {
	for v, w := range vars {
		if !slices.Contains(but, v) && w != uint32(v*1000+7) {
			return false
		}
	}
	return true
}

// P20.3
func TestSteps(t *testing.T) {
	for _, x := range [][3]int{{5, 6, 7}, {5, 5, 7}, {63, 0, 1}, {0, 63, 61}, {0, 1, 62}} {
		d, a, u := x[0], x[1], x[2]
		for _, n := range numbers {
			for _, mult := range numbers {
				for _, shift := range []int{0, 1, 8, 31} {
					l := quant.Steps(d, a, u, mult, shift)
					vars := run(t, l, a, n)
					if a != d {
						if int32(vars[a]) != n {
							t.Fatal("a is changed")
						}
						vars[a] = uint32(a*1000 + 7)
					}
					if int32(vars[d]) != quant.Scale(n, mult, shift) || !others(vars, d, u, u+1) {
						t.Fatal(x, n, mult, shift, int32(vars[d]))
					}
				}
			}
		}
	}
	for _, x := range [][5]int{{1, 2, 3, 5, -1}, {1, 2, 3, 5, 32}, {1, 2, 1, 5, 0}, {1, 2, 0, 5, 0}, {1, 3, 3, 5, 0}, {1, 4, 3, 5, 0}, {-1, 2, 3, 5, 0}, {1, -1, 3, 5, 0}, {64, 2, 3, 5, 0}, {1, 64, 3, 5, 0}, {1, 2, 63, 5, 0}, {1, 2, -1, 5, 0}, {1, 2, 64, 5, 0}, {5, 5, 1<<63 - 1, 5, 0}} {
		if l := quant.Steps(x[0], x[1], x[2], int32(x[3]), x[4]); len(l) != 0 {
			t.Error(x, l)
		}
	}
}

// P20.3
func TestClamps(t *testing.T) {
	const bound = 1 << 29
	bounds := [][2]int32{{0, 3}, {-128, 127}, {5, 5}, {-bound, bound}, {bound, bound}, {-bound, -bound}, {-bound, -7}, {1000, bound}}
	for _, x := range [][2]int{{5, 6}, {63, 0}, {0, 62}} {
		for _, b := range bounds {
			l := quant.Clamps(x[0], x[1], b[0], b[1])
			for _, n := range append(slices.Clone(numbers), b[0]-1, b[0], b[0]+1, b[1]-1, b[1], b[1]+1) {
				if n < -bound || n > bound {
					continue
				}
				vars := run(t, l, x[0], n)
				if int32(vars[x[0]]) != quant.Clamp(n, b[0], b[1]) || !others(vars, x[0], x[1], x[1]+1) {
					t.Error(x, b, n, int32(vars[x[0]]))
				}
			}
		}
	}
	for _, x := range [][4]int{{5, 5, 0, 3}, {5, 4, 0, 3}, {-1, 4, 0, 3}, {64, 4, 0, 3}, {5, 63, 0, 3}, {5, -1, 0, 3}, {5, 1<<63 - 1, 0, 3}, {5, 6, 4, 3}, {5, 6, -bound - 1, 3}, {5, 6, 0, bound + 1}, {5, 6, -1 << 31, -1 << 30}, {5, 6, 1 << 30, 1 << 30}} {
		if l := quant.Clamps(x[0], x[1], int32(x[2]), int32(x[3])); len(l) != 0 {
			t.Error(x, l)
		}
	}
}

// P20.4: the same steps each time, which may be.
func TestStraight(t *testing.T) {
	for _, shift := range []int{0, 5} {
		l := quant.Steps(1, 2, 3, 1<<30+1, shift)
		if !slices.Equal(l, quant.Steps(1, 2, 3, 1<<30+1, shift)) || lir.Check(l) != api.OK || len(l) == 0 {
			t.Error(l)
		}
	}
	if l := quant.Clamps(1, 3, -5, 5); !slices.Equal(l, quant.Clamps(1, 3, -5, 5)) || lir.Check(l) != api.OK || len(l) == 0 {
		t.Error(l)
	}
}
