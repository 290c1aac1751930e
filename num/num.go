// Package num is layer 1: words of 32 bits: see DOC.md and doc/01-num.md.
package num

import "pintle/api"

// Sext tells the lowest bits of w, the highest of these in all places above.
func Sext(w uint32, bits int) uint32 {
	if bits < 1 {
		return 0
	}
	if bits > 31 {
		return w
	}
	up := uint(32 - bits)
	return uint32(int32(w<<up) >> up)
}

// Signed tells a word as a number of two's complement.
func Signed(w uint32) int32 { return int32(w) }

// Alu does an operation of two registers; false, if op is none.
func Alu(op int, a, b uint32) (uint32, bool) {
	if op < api.Add || op > api.Remu {
		return 0, false
	}
	if op >= api.Div {
		return divide(op, a, b), true
	}
	if op >= api.Mul {
		return multiply(op, a, b), true
	}
	return simple(op, a, b), true
}

func simple(op int, a, b uint32) uint32 {
	switch op {
	case api.Add:
		return a + b
	case api.Sub:
		return a - b
	case api.Sll:
		return a << (b & 31)
	case api.Slt:
		return truth(Signed(a) < Signed(b))
	case api.Sltu:
		return truth(a < b)
	case api.Xor:
		return a ^ b
	case api.Srl:
		return a >> (b & 31)
	case api.Sra:
		return uint32(Signed(a) >> (b & 31))
	case api.Or:
		return a | b
	}
	return a & b
}

func truth(is bool) uint32 {
	if is {
		return 1
	}
	return 0
}

func multiply(op int, a, b uint32) uint32 {
	switch op {
	case api.Mul:
		return a * b
	case api.Mulh:
		return uint32(uint64(int64(Signed(a))*int64(Signed(b))) >> 32)
	case api.Mulhsu:
		// The product fits in 64 bits with a sign: 2^31 times 2^32 is below 2^63 and 1.
		return uint32(uint64(int64(Signed(a))*int64(b)) >> 32)
	}
	return uint32(uint64(a) * uint64(b) >> 32)
}

func divide(op int, a, b uint32) uint32 {
	switch op {
	case api.Div:
		return quotient(a, b)
	case api.Rem:
		// By nought the quotient plays no part, as b is 0: the rest is a.
		return a - quotient(a, b)*b
	case api.Divu:
		if b == 0 {
			return 1<<32 - 1
		}
		return a / b
	}
	if b == 0 {
		return a
	}
	return a % b
}

func quotient(a, b uint32) uint32 {
	if b == 0 {
		return 1<<32 - 1
	}
	// In 64 bits -2^31 by -1 is 2^31, which is -2^31 again in 32.
	return uint32(int64(Signed(a)) / int64(Signed(b)))
}
