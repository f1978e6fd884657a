package tests

import (
	"math"
	"testing"

	"loop.example/g00457/impl"
)

func TestWidthOk(t *testing.T) {
	for _, w := range widths() {
		if !impl.WidthOk(w) {
			t.Error(w)
		}
	}
	for _, w := range strangeWidths() {
		if impl.WidthOk(w) {
			t.Error(w)
		}
	}
}

func TestMasked(t *testing.T) {
	for _, r := range [][3]int64{
		{1, 0, 0}, {1, 1, 1}, {1, 2, 0}, {1, -1, 1}, {1, -2, 0},
		{8, 255, 255}, {8, 256, 0}, {8, 257, 1}, {8, -1, 255}, {8, -255, 1}, {8, -256, 0},
		{16, 65535, 65535}, {16, 65536, 0}, {16, -1, 65535}, {16, -65535, 1},
		{32, 4294967295, 4294967295}, {32, 4294967296, 0}, {32, -1, 4294967295}, {32, -4294967295, 1},
		{8, math.MaxInt64, 255}, {8, math.MinInt64, 0}, {32, math.MaxInt64, 4294967295}, {32, math.MinInt64, 0},
		{32, math.MinInt64 + 5, 5},
	} {
		if got := impl.Masked(r[0], r[1]); got != r[2] {
			t.Error(r, got)
		}
	}
	for _, w := range widths() {
		for _, v := range valuesOf(w) {
			for _, turns := range []int64{-3, -1, 0, 1, 3} {
				if got := impl.Masked(w, v+turns*(topOf(w)+1)); got != v {
					t.Error(w, v, turns, got)
				}
			}
		}
		for _, n := range strangeValues(w) {
			if got := impl.Masked(w, n); got < 0 || got > topOf(w) {
				t.Error(w, n, got)
			}
		}
	}
	for _, w := range strangeWidths() {
		for _, n := range []int64{math.MinInt64, -1, 0, 1, 5, math.MaxInt64} {
			if got := impl.Masked(w, n); got != 0 {
				t.Error(w, n, got)
			}
		}
	}
}

func TestSignOf(t *testing.T) {
	for _, r := range [][3]int64{
		{1, 0, 0}, {1, 1, -1},
		{8, 0, 0}, {8, 127, 127}, {8, 128, -128}, {8, 129, -127}, {8, 255, -1},
		{16, 32767, 32767}, {16, 32768, -32768}, {16, 65535, -1},
		{32, 2147483647, 2147483647}, {32, 2147483648, -2147483648}, {32, 4294967295, -1},
	} {
		if got := impl.SignOf(r[0], r[1]); got != r[2] {
			t.Error(r, got)
		}
	}
	for _, w := range widths() {
		for _, v := range valuesOf(w) {
			n := impl.SignOf(w, v)
			if half := (topOf(w) + 1) / 2; n < -half || n >= half || impl.Masked(w, n) != v {
				t.Error(w, v, n)
			}
		}
		for _, v := range strangeValues(w) {
			if got := impl.SignOf(w, v); got != 0 {
				t.Error(w, v, got)
			}
		}
	}
	for _, w := range strangeWidths() {
		for _, v := range []int64{-1, 0, 1, 5, 200} {
			if got := impl.SignOf(w, v); got != 0 {
				t.Error(w, v, got)
			}
		}
	}
}

func bit(yes bool) int64 {
	if yes {
		return 1
	}
	return 0
}

// native works an op out by Go's own integers of that width, as something
// that the program's way of doing it can be held against.
func native[U uint8 | uint16 | uint32, S int8 | int16 | int32](op int64, a, b int64) int64 {
	x, y := U(a), U(b)
	sx, sy := S(x), S(y)
	switch op {
	case impl.OpAdd:
		return int64(x + y)
	case impl.OpSub:
		return int64(x - y)
	case impl.OpMul:
		return int64(x * y)
	case impl.OpUDiv:
		return int64(x / y)
	case impl.OpSDiv:
		return int64(U(sx / sy))
	case impl.OpURem:
		return int64(x % y)
	case impl.OpSRem:
		return int64(U(sx % sy))
	case impl.OpAnd:
		return int64(x & y)
	case impl.OpOr:
		return int64(x | y)
	case impl.OpXor:
		return int64(x ^ y)
	case impl.OpShl:
		return int64(x << y)
	case impl.OpLShr:
		return int64(x >> y)
	case impl.OpAShr:
		return int64(U(sx >> y))
	case impl.OpEq:
		return bit(x == y)
	case impl.OpNe:
		return bit(x != y)
	case impl.OpULt:
		return bit(x < y)
	}
	return bit(sx < sy)
}

func isDivision(op int64) bool { return op >= impl.OpUDiv && op <= impl.OpSRem }

func TestBinaryAgainstNative(t *testing.T) {
	for w, native := range map[int64]func(op int64, a, b int64) int64{8: native[uint8, int8], 16: native[uint16, int16], 32: native[uint32, int32]} {
		for op := int64(impl.OpAdd); op <= impl.OpSLt; op++ {
			for _, a := range valuesOf(w) {
				for _, b := range valuesOf(w) {
					if isDivision(op) && b == 0 {
						continue
					}
					if got, code := impl.Binary(op, w, a, b); code != impl.BnOk || got != native(op, a, b) {
						t.Fatal(op, w, a, b, got, code, native(op, a, b))
					}
				}
			}
		}
	}
}

// Go has no integers of one bit, so here all answers are written out: of 0 0,
// 0 1, 1 0 and 1 1 (-1: it divides by 0).
func TestBinaryOfOneBit(t *testing.T) {
	for op, want := range map[int64][4]int64{
		impl.OpAdd: {0, 1, 1, 0}, impl.OpSub: {0, 1, 1, 0}, impl.OpMul: {0, 0, 0, 1},
		impl.OpUDiv: {-1, 0, -1, 1}, impl.OpSDiv: {-1, 0, -1, 1}, impl.OpURem: {-1, 0, -1, 0}, impl.OpSRem: {-1, 0, -1, 0},
		impl.OpAnd: {0, 0, 0, 1}, impl.OpOr: {0, 1, 1, 1}, impl.OpXor: {0, 1, 1, 0},
		impl.OpShl: {0, 0, 1, 0}, impl.OpLShr: {0, 0, 1, 0}, impl.OpAShr: {0, 0, 1, 1},
		impl.OpEq: {1, 0, 0, 1}, impl.OpNe: {0, 1, 1, 0}, impl.OpULt: {0, 1, 0, 0}, impl.OpSLt: {0, 0, 1, 0},
	} {
		for k, n := range want {
			code := int64(impl.BnOk)
			if n < 0 {
				n, code = 0, impl.BnZero
			}
			if got, c := impl.Binary(op, 1, int64(k/2), int64(k%2)); got != n || c != code {
				t.Error(op, k/2, k%2, got, c)
			}
		}
	}
}

func TestBinaryGivesItsWidth(t *testing.T) {
	for _, w := range widths() {
		for op := int64(impl.OpAdd); op <= impl.OpSLt; op++ {
			top := topOf(impl.ResultWidth(op, w))
			for _, a := range valuesOf(w) {
				for _, b := range valuesOf(w) {
					if got, _ := impl.Binary(op, w, a, b); got < 0 || got > top {
						t.Fatal(op, w, a, b, got)
					}
				}
			}
		}
	}
}

func must(t *testing.T, op, w, a, b int64) int64 {
	t.Helper()
	n, code := impl.Binary(op, w, a, b)
	if code != impl.BnOk {
		t.Fatal(op, w, a, b, code)
	}
	return n
}

func TestQuotientAndRest(t *testing.T) {
	for _, w := range widths() {
		for _, a := range valuesOf(w) {
			for _, b := range valuesOf(w)[1:] {
				q, r := must(t, impl.OpUDiv, w, a, b), must(t, impl.OpURem, w, a, b)
				if q*b+r != a || r >= b {
					t.Fatal("without a sign", w, a, b, q, r)
				}
				q, r = must(t, impl.OpSDiv, w, a, b), must(t, impl.OpSRem, w, a, b)
				if must(t, impl.OpAdd, w, must(t, impl.OpMul, w, q, b), r) != a {
					t.Fatal("with a sign", w, a, b, q, r)
				}
				sa, sb, sr := impl.SignOf(w, a), impl.SignOf(w, b), impl.SignOf(w, r)
				if max(sr, -sr) >= max(sb, -sb) || sr != 0 && (sr < 0) != (sa < 0) {
					t.Fatal("the rest has the sign of what is divided, and is the lesser", w, a, b, r)
				}
			}
		}
	}
}

func TestSignedDivisionEdges(t *testing.T) {
	for _, w := range widths() {
		low, minus := (topOf(w)+1)/2, topOf(w)
		if q, r := must(t, impl.OpSDiv, w, low, minus), must(t, impl.OpSRem, w, low, minus); q != low || r != 0 {
			t.Error("the lowest by -1", w, q, r)
		}
		if w == 1 {
			continue
		}
		// Cut towards 0: -7/2 is -3 and -1, 7/-2 is -3 and 1, -7/-2 is 3 and -1.
		m7, m2, m3, m1 := topOf(w)-6, topOf(w)-1, topOf(w)-2, topOf(w)
		for _, r := range [][4]int64{{m7, 2, m3, m1}, {7, m2, m3, 1}, {m7, m2, 3, m1}, {7, 2, 3, 1}} {
			if q, rest := must(t, impl.OpSDiv, w, r[0], r[1]), must(t, impl.OpSRem, w, r[0], r[1]); q != r[2] || rest != r[3] {
				t.Error(w, r, q, rest)
			}
		}
	}
}

func TestDivisionByZero(t *testing.T) {
	for _, w := range widths() {
		for op := int64(impl.OpAdd); op <= impl.OpSLt; op++ {
			for _, a := range valuesOf(w) {
				got, code := impl.Binary(op, w, a, 0)
				if isDivision(op) && (got != 0 || code != impl.BnZero) || !isDivision(op) && code != impl.BnOk {
					t.Fatal(op, w, a, got, code)
				}
			}
		}
	}
}

func TestOrders(t *testing.T) {
	for _, w := range widths() {
		for _, a := range valuesOf(w) {
			for _, b := range valuesOf(w) {
				eq := must(t, impl.OpEq, w, a, b)
				if eq != bit(a == b) || must(t, impl.OpNe, w, a, b) != 1-eq {
					t.Fatal("one", w, a, b)
				}
				for _, less := range []int64{impl.OpULt, impl.OpSLt} {
					if must(t, less, w, a, b)+must(t, less, w, b, a)+eq != 1 {
						t.Fatal("just one of three", less, w, a, b)
					}
				}
				if must(t, impl.OpULt, w, a, b) != bit(a < b) || must(t, impl.OpSLt, w, a, b) != bit(impl.SignOf(w, a) < impl.SignOf(w, b)) {
					t.Fatal("which is less", w, a, b)
				}
			}
		}
	}
}

func TestShifts(t *testing.T) {
	for _, w := range widths() {
		high := (topOf(w) + 1) / 2
		for _, a := range valuesOf(w) {
			signs := bit(a >= high) * topOf(w)
			for _, b := range valuesOf(w) {
				shl, lshr, ashr := must(t, impl.OpShl, w, a, b), must(t, impl.OpLShr, w, a, b), must(t, impl.OpAShr, w, a, b)
				switch {
				case b >= w:
					if shl != 0 || lshr != 0 || ashr != signs {
						t.Fatal("by the width or more", w, a, b, shl, lshr, ashr)
					}
				case b == w-1:
					if shl != a%2*high || lshr != a/high || ashr != signs {
						t.Fatal("by the width less 1", w, a, b, shl, lshr, ashr)
					}
				case b == 0:
					if shl != a || lshr != a || ashr != a {
						t.Fatal("by nothing", w, a, shl, lshr, ashr)
					}
				}
			}
		}
	}
}

func TestBinaryForm(t *testing.T) {
	bad := func(op, w, a, b int64) {
		if got, code := impl.Binary(op, w, a, b); got != 0 || code != impl.BnForm {
			t.Error(op, w, a, b, got, code)
		}
	}
	for _, w := range widths() {
		for _, op := range []int64{math.MinInt64, -1, 0, 18, 19, 20, 27, 28, math.MaxInt64} {
			bad(op, w, 1, 1)
		}
		for op := int64(impl.OpAdd); op <= impl.OpSLt; op++ {
			for _, v := range strangeValues(w) {
				bad(op, w, v, 1)
				bad(op, w, 1, v)
				bad(op, w, v, v)
				bad(op, w, v, 0) // the form is asked ahead of the division
			}
		}
	}
	for _, w := range strangeWidths() {
		for op := int64(impl.OpAdd); op <= impl.OpSLt; op++ {
			bad(op, w, 0, 0)
			bad(op, w, 1, 1)
		}
	}
}

func TestCasted(t *testing.T) {
	for _, from := range widths() {
		for _, to := range widths() {
			for _, v := range valuesOf(from) {
				sext := v
				if v > topOf(from)/2 {
					sext = v + topOf(to) - topOf(from)
				}
				for op, want := range map[int64]int64{impl.OpZext: v, impl.OpSext: sext, impl.OpTrunc: v % (topOf(to) + 1)} {
					ok := from < to
					if op == impl.OpTrunc {
						ok = to < from
					}
					if !ok {
						want = 0
					}
					if got, is := impl.Casted(op, from, to, v); is != ok || got != want || got > topOf(to) {
						t.Fatal(op, from, to, v, got, is)
					}
				}
			}
		}
	}
}

func TestCastsThereAndBack(t *testing.T) {
	for _, from := range widths() {
		for _, to := range widths() {
			for _, op := range []int64{impl.OpZext, impl.OpSext} {
				for _, v := range valuesOf(from) {
					wide, ok := impl.Casted(op, from, to, v)
					if !ok {
						continue
					}
					if op == impl.OpSext && impl.SignOf(to, wide) != impl.SignOf(from, v) {
						t.Fatal("the sign stays", from, to, v, wide)
					}
					if back, ok := impl.Casted(impl.OpTrunc, to, from, wide); !ok || back != v {
						t.Fatal(op, from, to, v, wide, back, ok)
					}
				}
			}
		}
	}
}

func TestCastedRefusals(t *testing.T) {
	bad := func(op, from, to, v int64) {
		if got, ok := impl.Casted(op, from, to, v); got != 0 || ok {
			t.Error(op, from, to, v, got, ok)
		}
	}
	casts := []int64{impl.OpZext, impl.OpSext, impl.OpTrunc}
	for _, from := range widths() {
		for _, to := range widths() {
			for _, op := range []int64{math.MinInt64, -1, 0, 1, 16, 17, 21, 22, 27, math.MaxInt64} {
				bad(op, from, to, 1)
			}
			for _, op := range casts {
				for _, v := range strangeValues(from) {
					bad(op, from, to, v)
				}
			}
		}
		for _, w := range strangeWidths() {
			for _, op := range casts {
				bad(op, from, w, 1)
				bad(op, w, from, 0)
				bad(op, w, w+1, 0)
			}
		}
	}
}

func TestResultWidth(t *testing.T) {
	for _, w := range widths() {
		for op := int64(-2); op <= 30; op++ {
			want := int64(0)
			if op >= 1 && op <= 13 {
				want = w
			} else if op >= 14 && op <= 17 {
				want = 1
			}
			if got := impl.ResultWidth(op, w); got != want {
				t.Error(op, w, got)
			}
		}
		for _, op := range []int64{math.MinInt64, math.MaxInt64} {
			if got := impl.ResultWidth(op, w); got != 0 {
				t.Error(op, w, got)
			}
		}
	}
	for _, w := range strangeWidths() {
		for op := int64(0); op <= 28; op++ {
			if got := impl.ResultWidth(op, w); got != 0 {
				t.Error(op, w, got)
			}
		}
	}
}
