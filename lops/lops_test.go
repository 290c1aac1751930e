package lops_test

import (
	"testing"

	"pintle/api"
	"pintle/lops"
)

// P16.1, P18.2: the steps of three variables, and no others.
func TestOperation(t *testing.T) {
	want := []int{api.Add, api.Sub, api.Mul, api.Mulh, api.And, api.Or, api.Xor, api.Slt, api.Sltu, api.Divu}
	for op := -2; op < api.Lops+3; op++ {
		w := 0
		if op >= api.LAdd && op <= api.LDivu {
			w = want[op-api.LAdd]
		}
		if got := lops.Operation(op); got != w {
			t.Error(op, got)
		}
	}
}
