// Package alu is layer 1: see shared/doc/01-alu.md.
package alu

import (
	"math/bits"

	"barbican/api"
)

// word is what an operator's numbers are once they are cut.
type word interface {
	uint32 | uint64
}

// Do cuts by the conversion to 32 bits, so that nothing above them can play a part in what is narrow.
func Do(op api.Op, narrow bool, a, b uint64) (uint64, api.Errno) {
	if narrow {
		n, e := reckon(op, uint32(a), uint32(b))
		return uint64(n), e
	}
	return reckon(op, a, b)
}

// Is cuts as Do does.
func Is(op api.Op, narrow bool, a, b uint64) (bool, api.Errno) {
	if narrow {
		return compare(op, uint32(a), uint32(b))
	}
	return compare(op, a, b)
}

func Wide(n int) uint64 {
	return uint64(n)
}

func reckon[W word](op api.Op, a, b W) (W, api.Errno) {
	does, ok := operators[W]()[op]
	if !ok {
		return 0, api.ErrArg
	}
	if b == 0 && (op == api.Div || op == api.Mod) {
		return 0, api.ErrDivide
	}
	return does(a, b), api.OK
}

func compare[W word](op api.Op, a, b W) (bool, api.Errno) {
	holds, ok := relations[W]()[op]
	if !ok {
		return false, api.ErrArg
	}
	return holds(a, b), api.OK
}

// operators leaves a divisor of nought to its caller: the quotient has no number for it.
func operators[W word]() map[api.Op]func(a, b W) W {
	size := W(width[W]())
	return map[api.Op]func(a, b W) W{
		api.Add: func(a, b W) W { return a + b },
		api.Sub: func(a, b W) W { return a - b },
		api.Mul: func(a, b W) W { return a * b },
		api.Div: func(a, b W) W { return a / b },
		api.Mod: func(a, b W) W { return a % b },
		api.And: func(a, b W) W { return a & b },
		api.Or:  func(a, b W) W { return a | b },
		api.Xor: func(a, b W) W { return a ^ b },
		api.Shl: func(a, b W) W { return a << (b % size) },
		api.Shr: func(a, b W) W { return a >> (b % size) },
		api.Sar: func(a, b W) W { return W(signed(a) >> (b % size)) },
		api.Mov: func(_, b W) W { return b },
		api.Neg: func(a, _ W) W { return -a },
	}
}

func relations[W word]() map[api.Op]func(a, b W) bool {
	return map[api.Op]func(a, b W) bool{
		api.Jeq:  func(a, b W) bool { return a == b },
		api.Jne:  func(a, b W) bool { return a != b },
		api.Jgt:  func(a, b W) bool { return a > b },
		api.Jge:  func(a, b W) bool { return a >= b },
		api.Jlt:  func(a, b W) bool { return a < b },
		api.Jle:  func(a, b W) bool { return a <= b },
		api.Jsgt: func(a, b W) bool { return signed(a) > signed(b) },
		api.Jsge: func(a, b W) bool { return signed(a) >= signed(b) },
		api.Jslt: func(a, b W) bool { return signed(a) < signed(b) },
		api.Jsle: func(a, b W) bool { return signed(a) <= signed(b) },
		api.Jset: func(a, b W) bool { return a&b != 0 },
	}
}

func width[W word]() int {
	return bits.OnesCount64(uint64(^W(0)))
}

// signed goes by way of the 64 bits' upper end, since a shift down from there fills with the highest bit.
func signed[W word](a W) int64 {
	spare := 64 - width[W]()
	return int64(uint64(a)<<spare) >> spare
}
