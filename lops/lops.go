// Package lops tells what steps of loop programs do in the machine's words, for the layers that do them and that write them.
package lops

import "pintle/api"

// Operation tells which operation of registers a step of three variables does; 0, if it is none.
func Operation(op int) int {
	switch op {
	case api.LAdd:
		return api.Add
	case api.LSub:
		return api.Sub
	case api.LMul:
		return api.Mul
	case api.LMulh:
		return api.Mulh
	case api.LAnd:
		return api.And
	case api.LOr:
		return api.Or
	case api.LXor:
		return api.Xor
	case api.LSlt:
		return api.Slt
	case api.LSltu:
		return api.Sltu
	case api.LDivu:
		return api.Divu
	}
	return 0
}
