package impl

const (
	OpAdd    = 1
	OpSub    = 2
	OpMul    = 3
	OpUDiv   = 4
	OpSDiv   = 5
	OpURem   = 6
	OpSRem   = 7
	OpAnd    = 8
	OpOr     = 9
	OpXor    = 10
	OpShl    = 11
	OpLShr   = 12
	OpAShr   = 13
	OpEq     = 14
	OpNe     = 15
	OpULt    = 16
	OpSLt    = 17
	OpZext   = 18
	OpSext   = 19
	OpTrunc  = 20
	OpConst  = 21
	OpSelect = 22
	OpLoad   = 23
	OpStore  = 24
	OpPrint  = 25
	OpCall   = 26
	OpCopy   = 27
	BnOk     = 0
	BnZero   = 1
	BnForm   = 2
)

func WidthOk(w int64) bool {
	return w == 1 || w == 8 || w == 16 || w == 32
}

func Masked(w int64, n int64) int64 {
	if !WidthOk(w) {
		return 0
	}
	return n & (valuesOf(w) - 1)
}

func SignOf(w int64, v int64) int64 {
	if !isValue(w, v) {
		return 0
	}
	if v >= valuesOf(w)/2 {
		return v - valuesOf(w)
	}
	return v
}

func Binary(op int64, w int64, a int64, b int64) (int64, int64) {
	if !isBinary(op) || !isValue(w, a) || !isValue(w, b) {
		return 0, BnForm
	}
	if op >= OpUDiv && op <= OpSRem && b == 0 {
		return 0, BnZero
	}
	rules := binaryRules()
	return Masked(w, rules[op](w, a, b)), BnOk
}

func Casted(op int64, from int64, to int64, v int64) (int64, bool) {
	if !isValue(from, v) || !WidthOk(to) {
		return 0, false
	}
	switch {
	case op == OpZext && from < to:
		return v, true
	case op == OpSext && from < to:
		return Masked(to, SignOf(from, v)), true
	case op == OpTrunc && to < from:
		return Masked(to, v), true
	}
	return 0, false
}

func ResultWidth(op int64, w int64) int64 {
	if !isBinary(op) || !WidthOk(w) {
		return 0
	}
	if op >= OpEq {
		return 1
	}
	return w
}

// valuesOf tells how many values a width has; it is asked of widths alone.
func valuesOf(w int64) int64 {
	return int64(1) << w
}

func isValue(w int64, v int64) bool {
	return WidthOk(w) && v >= 0 && v < valuesOf(w)
}

func isBinary(op int64) bool {
	return op >= OpAdd && op <= OpSLt
}

// A binaryRule is asked of two values of the width only, and of no b that is
// 0 where it divides. What it gives may be wider than w: Binary cuts it.
type binaryRule func(w int64, a int64, b int64) int64

// binaryRules has each rule at the place of its op, and nothing at place 0.
func binaryRules() [OpSLt + 1]binaryRule {
	return [OpSLt + 1]binaryRule{
		OpAdd:  addRule,
		OpSub:  subRule,
		OpMul:  mulRule,
		OpUDiv: udivRule,
		OpSDiv: sdivRule,
		OpURem: uremRule,
		OpSRem: sremRule,
		OpAnd:  andRule,
		OpOr:   orRule,
		OpXor:  xorRule,
		OpShl:  shlRule,
		OpLShr: lshrRule,
		OpAShr: ashrRule,
		OpEq:   eqRule,
		OpNe:   neRule,
		OpULt:  ultRule,
		OpSLt:  sltRule,
	}
}

func addRule(w int64, a int64, b int64) int64 { return a + b }

func subRule(w int64, a int64, b int64) int64 { return a - b }

// mulRule goes by uint64, which has room for the product of any two values of
// 32 bits where int64 has not.
func mulRule(w int64, a int64, b int64) int64 {
	return int64((uint64(a) * uint64(b)) & MaxConst)
}

func udivRule(w int64, a int64, b int64) int64 { return a / b }

func sdivRule(w int64, a int64, b int64) int64 { return SignOf(w, a) / SignOf(w, b) }

func uremRule(w int64, a int64, b int64) int64 { return a % b }

func sremRule(w int64, a int64, b int64) int64 { return SignOf(w, a) % SignOf(w, b) }

func andRule(w int64, a int64, b int64) int64 { return a & b }

func orRule(w int64, a int64, b int64) int64 { return a | b }

func xorRule(w int64, a int64, b int64) int64 { return a ^ b }

func shlRule(w int64, a int64, b int64) int64 {
	if b >= w {
		return 0
	}
	return a << b
}

func lshrRule(w int64, a int64, b int64) int64 {
	if b >= w {
		return 0
	}
	return a >> b
}

// ashrRule stops at the width less 1: from there on only copies of the
// highest bit are left.
func ashrRule(w int64, a int64, b int64) int64 {
	return SignOf(w, a) >> min(b, w-1)
}

func eqRule(w int64, a int64, b int64) int64 { return bitOf(a == b) }

func neRule(w int64, a int64, b int64) int64 { return bitOf(a != b) }

func ultRule(w int64, a int64, b int64) int64 { return bitOf(a < b) }

func sltRule(w int64, a int64, b int64) int64 { return bitOf(SignOf(w, a) < SignOf(w, b)) }

func bitOf(yes bool) int64 {
	if yes {
		return 1
	}
	return 0
}
