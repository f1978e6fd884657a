package tests

import (
	"math"
	"reflect"
	"testing"

	"loop.example/g00457/impl"
)

// wideFunc has parameters, phis and instructions of every op over several
// blocks, of which one has nothing but its end.
func wideFunc() impl.Func {
	return impl.Func{Params: []int64{32, 8, 1}, Ret: 8, Blocks: []impl.Block{
		{Insts: []impl.Inst{
			{Op: impl.OpConst, W: 8, Imm: 255},     // 3
			{Op: impl.OpAdd, W: 8, A: 1, B: 3},     // 4
			{Op: impl.OpSLt, W: 8, A: 4, B: 1},     // 5
			{Op: impl.OpStore, A: 0, B: 4},         // 6
			{Op: impl.OpZext, W: 16, A: 1},         // 7
			{Op: impl.OpEq, W: 32, A: 0, B: 0},     // 8
			{Op: impl.OpAShr, W: 16, A: 7, B: 7},   // 9
			{Op: impl.OpTrunc, W: 1, A: 9},         // 10
			{Op: impl.OpSext, W: 32, A: 1},         // 11
			{Op: impl.OpULt, W: 32, A: 0, B: 11},   // 12
			{Op: impl.OpNe, W: 1, A: 10, B: 12},    // 13
			{Op: impl.OpXor, W: 1, A: 13, B: 2},    // 14
			{Op: impl.OpCopy, W: 32, A: 11},        // 15
			{Op: impl.OpPrint, A: 15},              // 16
			{Op: impl.OpSub, W: 32, A: 15, B: 0},   // 17
			{Op: impl.OpMul, W: 32, A: 15, B: 17},  // 18
			{Op: impl.OpConst, W: 32, Imm: 7},      // 19
			{Op: impl.OpUDiv, W: 32, A: 18, B: 19}, // 20
			{Op: impl.OpSDiv, W: 32, A: 18, B: 19}, // 21
			{Op: impl.OpURem, W: 32, A: 18, B: 19}, // 22
			{Op: impl.OpSRem, W: 32, A: 18, B: 19}, // 23
			{Op: impl.OpAnd, W: 32, A: 20, B: 21},  // 24
			{Op: impl.OpOr, W: 32, A: 22, B: 23},   // 25
			{Op: impl.OpShl, W: 32, A: 24, B: 25},  // 26
			{Op: impl.OpLShr, W: 32, A: 26, B: 19}, // 27
		}, Term: impl.Term{Kind: impl.TmBranch, A: 5, X: 2, Y: 1}},
		{Term: impl.Term{Kind: impl.TmJump, X: 2}},
		{Phis: []impl.Phi{{W: 8, Ins: []int64{3, 4}}, {W: 1, Ins: []int64{5, 2}}}, // 28, 29
			Insts: []impl.Inst{
				{Op: impl.OpLoad, W: 8, A: 0},                             // 30
				{Op: impl.OpSelect, W: 8, A: 29, B: 28, C: 30},            // 31
				{Op: impl.OpCall, W: 8, Imm: 0, Args: []int64{0, 31, 29}}, // 32
			}, Term: impl.Term{Kind: impl.TmBranch, A: 29, X: 3, Y: 4}},
		{Phis: []impl.Phi{{W: 16, Ins: []int64{7}}}, Term: impl.Term{Kind: impl.TmRet, A: 32}}, // 33
		{Insts: []impl.Inst{{Op: impl.OpPrint, A: 31}}, Term: impl.Term{Kind: impl.TmTrap}},    // 34
	}}
}

// counted has that many ids, all of them constants of one block.
func counted(n int) impl.Func {
	f := impl.Func{Ret: 8, Blocks: []impl.Block{{Term: impl.Term{Kind: impl.TmTrap}}}}
	for k := 0; k < n; k++ {
		f.Blocks[0].Insts = append(f.Blocks[0].Insts, impl.Inst{Op: impl.OpConst, W: 8, Imm: int64(k)})
	}
	return f
}

func alone(f impl.Func) impl.Module { return impl.Module{Funcs: []impl.Func{f}} }

// holding is a module of two functions, the first of which has four constants
// (ids 0 .. 3), that instruction (id 4), and a second block.
func holding(i impl.Inst) impl.Module {
	f := counted(4)
	f.Blocks[0].Insts = append(f.Blocks[0].Insts, i)
	f.Blocks = append(f.Blocks, impl.Block{Term: impl.Term{Kind: impl.TmTrap}})
	return impl.Module{Funcs: []impl.Func{f, counted(0)}}
}

// ending is a module whose function has four ids, three blocks, and that end.
func ending(e impl.Term) impl.Module {
	f := counted(4)
	f.Blocks[0].Term = e
	f.Blocks = append(f.Blocks, impl.Block{Term: impl.Term{Kind: impl.TmTrap}}, impl.Block{Term: impl.Term{Kind: impl.TmTrap}})
	return alone(f)
}

func TestEachIdHasItsPlace(t *testing.T) {
	f := wideFunc()
	if !impl.ShapeOk(alone(f)) {
		t.Fatal("not in its form")
	}
	var places [][2]int64
	for p := range f.Params {
		places = append(places, [2]int64{-1, int64(p)})
	}
	for b, block := range f.Blocks {
		for at := 0; at < len(block.Phis)+len(block.Insts); at++ {
			places = append(places, [2]int64{int64(b), int64(at)})
		}
	}
	if impl.CountOf(f) != int64(len(places)) || len(places) != 35 {
		t.Fatal(impl.CountOf(f), len(places))
	}
	for id, want := range places {
		if b, at := impl.PlaceOf(f, int64(id)); b != want[0] || at != want[1] {
			t.Error(id, b, at, want)
		}
	}
	for _, id := range []int64{math.MinInt64, -2, -1, 35, 36, math.MaxInt64} {
		if b, at := impl.PlaceOf(f, id); b != -2 || at != 0 {
			t.Error(id, b, at)
		}
		if w := impl.TypeOf(f, id); w != -1 {
			t.Error(id, w)
		}
	}
}

func TestTypeOf(t *testing.T) {
	want := []int64{32, 8, 1,
		8, 8, 1, 0, 16, 1, 16, 1, 32, 1, 1, 1, 32, 0, 32, 32, 32, 32, 32, 32, 32, 32, 32, 32, 32,
		8, 1, 8, 8, 8, 16, 0}
	f := wideFunc()
	for id, w := range want {
		if got := impl.TypeOf(f, int64(id)); got != w {
			t.Error(id, got, w)
		}
	}
	if impl.CountOf(f) != int64(len(want)) {
		t.Error(len(want))
	}
}

// A function that is in no form is told of by the same words.
func TestTypesOfStrangeParts(t *testing.T) {
	f := impl.Func{Params: []int64{9, -4}, Blocks: []impl.Block{
		{Phis: []impl.Phi{{W: 77}}, Insts: []impl.Inst{{Op: impl.OpAdd, W: 9}, {Op: impl.OpEq, W: 9}, {Op: 28, W: 5}, {Op: 0, W: -5}, {Op: impl.OpZext, W: 9}, {Op: impl.OpStore, W: 8}}},
	}}
	for id, w := range []int64{9, -4, 77, 0, 0, 5, -5, 9, 8, -1} {
		if got := impl.TypeOf(f, int64(id)); got != w {
			t.Error(id, got, w)
		}
	}
}

func TestNothing(t *testing.T) {
	for _, f := range []impl.Func{{}, {Ret: 8, Blocks: []impl.Block{}}, {Ret: 8, Blocks: []impl.Block{{}, {}}}} {
		if n := impl.CountOf(f); n != 0 {
			t.Error(n)
		}
		for _, id := range []int64{-1, 0, 1} {
			if b, at := impl.PlaceOf(f, id); b != -2 || at != 0 || impl.TypeOf(f, id) != -1 {
				t.Error(id, b, at)
			}
		}
		if impl.ShapeOk(alone(f)) {
			t.Error(f)
		}
	}
	if impl.ShapeOk(impl.Module{}) || impl.ShapeOk(impl.Module{Funcs: []impl.Func{}}) {
		t.Error("no functions")
	}
	if l := impl.OperandsOf(impl.Inst{}); len(l) != 0 {
		t.Error(l)
	}
	// A block with nothing but its end is enough, and has no id to name.
	if !impl.ShapeOk(alone(counted(0))) {
		t.Error("an end alone")
	}
	f := counted(0)
	f.Blocks[0].Term = impl.Term{Kind: impl.TmRet}
	if impl.ShapeOk(alone(f)) {
		t.Error("what is given is no id")
	}
	f.Blocks[0].Term = impl.Term{Kind: impl.TmJump}
	if !impl.ShapeOk(alone(f)) {
		t.Error("a block that leads to itself")
	}
}

func TestOperandsOf(t *testing.T) {
	want := func(op int64) []int64 {
		switch {
		case op >= 1 && op <= 17 || op == impl.OpStore:
			return []int64{11, 12}
		case op >= 18 && op <= 20 || op == impl.OpLoad || op == impl.OpPrint || op == impl.OpCopy:
			return []int64{11}
		case op == impl.OpSelect:
			return []int64{11, 12, 13}
		case op == impl.OpCall:
			return []int64{21, 22, 21, 23, 24}
		}
		return nil
	}
	ops := []int64{math.MinInt64, math.MaxInt64}
	for op := int64(-1); op <= 36; op++ {
		ops = append(ops, op)
	}
	for _, op := range ops {
		i := impl.Inst{Op: op, W: 8, A: 11, B: 12, C: 13, Imm: 14, Args: []int64{21, 22, 21, 23, 24}}
		if l := impl.OperandsOf(i); !sameList(l, want(op)) {
			t.Error(op, l)
		}
	}
	if l := impl.OperandsOf(impl.Inst{Op: impl.OpCall, A: 1, B: 2, C: 3}); len(l) != 0 {
		t.Error(l)
	}
}

func repeated(f impl.Func, n int) impl.Module {
	var m impl.Module
	for k := 0; k < n; k++ {
		m.Funcs = append(m.Funcs, copyFunc(f))
	}
	return m
}

func withParams(n int) impl.Module {
	f := counted(0)
	for k := 0; k < n; k++ {
		f.Params = append(f.Params, 16)
	}
	return alone(f)
}

func withBlocks(n int) impl.Module {
	f := counted(0)
	f.Blocks = nil
	for k := 0; k < n; k++ {
		f.Blocks = append(f.Blocks, impl.Block{Term: impl.Term{Kind: impl.TmTrap}})
	}
	return alone(f)
}

func withIns(n int, id int64) impl.Module {
	f := counted(3)
	f.Blocks[0].Phis = []impl.Phi{{W: 8}}
	for k := 0; k < n; k++ {
		f.Blocks[0].Phis[0].Ins = append(f.Blocks[0].Phis[0].Ins, id)
	}
	return alone(f)
}

func withArgs(n int, id int64) impl.Module {
	i := impl.Inst{Op: impl.OpCall, W: 8, Imm: 1}
	for k := 0; k < n; k++ {
		i.Args = append(i.Args, id)
	}
	return holding(i)
}

// spread has n ids in all, parameters and phis and instructions among them.
func spread(n int) impl.Module {
	f := counted(n - 7)
	f.Params = []int64{1, 8, 16, 32}
	f.Blocks = append(f.Blocks, impl.Block{
		Phis:  []impl.Phi{{W: 8}, {W: 16, Ins: []int64{int64(n - 1)}}},
		Insts: []impl.Inst{{Op: impl.OpCopy, W: 8, A: int64(n - 1)}},
		Term:  impl.Term{Kind: impl.TmRet, A: int64(n - 1)},
	})
	return alone(f)
}

func TestLimitsOfShape(t *testing.T) {
	for _, r := range []struct {
		name string
		m    impl.Module
		ok   bool
	}{
		{"0 functions", repeated(counted(1), 0), false},
		{"1 function", repeated(counted(1), 1), true},
		{"3 functions", repeated(counted(1), impl.MaxFuncs), true},
		{"4 functions", repeated(counted(1), impl.MaxFuncs+1), false},
		{"0 params", withParams(0), true},
		{"4 params", withParams(impl.MaxParams), true},
		{"5 params", withParams(impl.MaxParams + 1), false},
		{"0 blocks", withBlocks(0), false},
		{"1 block", withBlocks(1), true},
		{"10 blocks", withBlocks(impl.MaxBlocks), true},
		{"11 blocks", withBlocks(impl.MaxBlocks + 1), false},
		{"60 ids", alone(counted(impl.MaxValues)), true},
		{"61 ids", alone(counted(impl.MaxValues + 1)), false},
		{"60 ids of all kinds", spread(impl.MaxValues), true},
		{"61 ids of all kinds", spread(impl.MaxValues + 1), false},
		{"no ins", withIns(0, 0), true},
		{"10 ins", withIns(impl.MaxBlocks, 3), true},
		{"11 ins", withIns(impl.MaxBlocks+1, 3), false},
		{"the first id comes in", withIns(1, 0), true},
		{"the last id comes in", withIns(1, 3), true},
		{"one more comes in", withIns(1, 4), false},
		{"one less comes in", withIns(1, -1), false},
		{"no args", withArgs(0, 0), true},
		{"4 args", withArgs(impl.MaxParams, 4), true},
		{"5 args", withArgs(impl.MaxParams+1, 4), false},
		{"an arg past the last id", withArgs(1, 5), false},
		{"an arg below the first", withArgs(4, -1), false},
	} {
		if impl.ShapeOk(r.m) != r.ok {
			t.Error(r.name, !r.ok)
		}
	}
}

func TestEachFunctionIsLookedAt(t *testing.T) {
	for k := 0; k < 3; k++ {
		m := repeated(wideFunc(), 3)
		m.Funcs[k].Blocks[4].Insts[0].W = 8
		if impl.ShapeOk(m) {
			t.Error(k)
		}
	}
}

func TestWidthsOfShape(t *testing.T) {
	for _, w := range append(widths(), strangeWidths()...) {
		ok := w == 1 || w == 8 || w == 16 || w == 32
		f := counted(1)
		f.Ret = w
		if impl.ShapeOk(alone(f)) != ok {
			t.Error("ret", w)
		}
		for at := 0; at < impl.MaxParams; at++ {
			m := withParams(impl.MaxParams)
			m.Funcs[0].Params[at] = w
			if impl.ShapeOk(m) != ok {
				t.Error("param", at, w)
			}
		}
		m := withIns(2, 0)
		m.Funcs[0].Blocks[0].Phis[0].W = w
		if impl.ShapeOk(m) != ok {
			t.Error("phi", w)
		}
		for op := int64(1); op <= 27; op++ {
			want := ok
			switch op {
			case impl.OpStore, impl.OpPrint:
				want = w == 0
			case impl.OpLoad:
				want = w == 8
			}
			if impl.ShapeOk(holding(impl.Inst{Op: op, W: w})) != want {
				t.Error("inst", op, w)
			}
		}
	}
}

// rightInst names the greatest id that there is in whatever it may name.
func rightInst(op int64) impl.Inst {
	i := impl.Inst{Op: op, W: 8}
	switch {
	case op <= 17:
		i.A, i.B = 4, 4
	case op <= 20 || op == impl.OpLoad || op == impl.OpCopy:
		i.A = 4
	case op == impl.OpConst:
		i.Imm = 255
	case op == impl.OpSelect:
		i.A, i.B, i.C = 4, 4, 4
	case op == impl.OpStore:
		i.W, i.A, i.B = 0, 4, 4
	case op == impl.OpPrint:
		i.W, i.A = 0, 4
	case op == impl.OpCall:
		i.Imm, i.Args = 1, []int64{4, 0, 4, 3}
	}
	return i
}

func TestOpsOfShape(t *testing.T) {
	for op := int64(1); op <= 27; op++ {
		if !impl.ShapeOk(holding(rightInst(op))) {
			t.Error(op)
		}
	}
	for _, op := range []int64{math.MinInt64, -1, 0, 28, 29, 31, 35, math.MaxInt64} {
		if impl.ShapeOk(holding(impl.Inst{Op: op, W: 8})) || impl.ShapeOk(holding(impl.Inst{Op: op})) {
			t.Error(op)
		}
	}
}

// What is named must be an id; what is not must be 0.
func TestFieldsOfInstructions(t *testing.T) {
	for op := int64(1); op <= 27; op++ {
		n := len(impl.OperandsOf(rightInst(op)))
		if op == impl.OpCall {
			n = 0
		}
		for at := 0; at < 3; at++ {
			for _, v := range []int64{math.MinInt64, -1, 0, 1, 4, 5, math.MaxInt64} {
				i := rightInst(op)
				*[]*int64{&i.A, &i.B, &i.C}[at] = v
				want := v == 0
				if at < n {
					want = v >= 0 && v <= 4
				}
				if impl.ShapeOk(holding(i)) != want {
					t.Error(op, "ABC"[at:at+1], v)
				}
			}
		}
		for _, v := range []int64{math.MinInt64, -1, 0, 1, 2, 3, 255, 256, math.MaxInt64} {
			i := rightInst(op)
			i.Imm = v
			want := v == 0
			if op == impl.OpConst {
				want = v >= 0 && v <= 255
			} else if op == impl.OpCall {
				want = v == 0 || v == 1
			}
			if impl.ShapeOk(holding(i)) != want {
				t.Error(op, "Imm", v)
			}
		}
		i := rightInst(op)
		i.Args = []int64{0}
		if impl.ShapeOk(holding(i)) != (op == impl.OpCall) {
			t.Error(op, "Args")
		}
	}
}

func TestConstantsOfShape(t *testing.T) {
	for _, w := range widths() {
		for _, v := range valuesOf(w) {
			if !impl.ShapeOk(holding(impl.Inst{Op: impl.OpConst, W: w, Imm: v})) {
				t.Error(w, v)
			}
		}
		for _, v := range strangeValues(w) {
			if impl.ShapeOk(holding(impl.Inst{Op: impl.OpConst, W: w, Imm: v})) {
				t.Error(w, v)
			}
		}
	}
}

// A call's place is one among the functions that there are, not among as many
// as there may be.
func TestCalleesOfShape(t *testing.T) {
	for n := 1; n <= impl.MaxFuncs; n++ {
		for k := int64(-1); k <= impl.MaxFuncs; k++ {
			m := repeated(counted(1), n)
			m.Funcs[n-1].Blocks[0].Insts[0] = impl.Inst{Op: impl.OpCall, W: 8, Imm: k}
			if impl.ShapeOk(m) != (k >= 0 && k < int64(n)) {
				t.Error(n, k)
			}
		}
	}
}

func TestEndsOfShape(t *testing.T) {
	odd := []int64{math.MinInt64, -1, 0, 1, 2, 3, 4, math.MaxInt64}
	id := func(n int64) bool { return n >= 0 && n <= 3 }
	block := func(n int64) bool { return n >= 0 && n <= 2 }
	for _, kind := range []int64{math.MinInt64, -1, 0, 1, 2, 3, 4, 5, math.MaxInt64} {
		for _, a := range odd {
			for _, x := range odd {
				for _, y := range odd {
					want := false
					switch kind {
					case impl.TmRet:
						want = id(a) && x == 0 && y == 0
					case impl.TmJump:
						want = a == 0 && block(x) && y == 0
					case impl.TmBranch:
						want = id(a) && block(x) && block(y) && x != y
					case impl.TmTrap:
						want = a == 0 && x == 0 && y == 0
					}
					e := impl.Term{Kind: kind, A: a, X: x, Y: y}
					if impl.ShapeOk(ending(e)) != want {
						t.Error(e, !want)
					}
				}
			}
		}
	}
}

// The limits are held against each function by itself.
func TestIdsAreOfOneFunction(t *testing.T) {
	m := repeated(counted(impl.MaxValues), 3)
	if !impl.ShapeOk(m) {
		t.Error("180 ids of three functions")
	}
	m = impl.Module{Funcs: []impl.Func{counted(2), counted(9)}}
	m.Funcs[0].Blocks[0].Term = impl.Term{Kind: impl.TmRet, A: 5}
	if impl.ShapeOk(m) {
		t.Error("an id of the other function")
	}
}

func TestAnswersAreNewMemory(t *testing.T) {
	back := []int64{7, 8, 9, 10}
	i := impl.Inst{Op: impl.OpCall, W: 8, Args: back[:2]}
	l := impl.OperandsOf(i)
	l[0] = 99
	_ = append(l[:1], 98, 97, 96)
	if !sameList(back, []int64{7, 8, 9, 10}) {
		t.Error("the argument, or the room behind it, was written into", back)
	}
	if again := impl.OperandsOf(i); !sameList(again, []int64{7, 8}) {
		t.Error(again)
	}
}

func TestArgumentsStayAsTheyAre(t *testing.T) {
	m := impl.Module{Funcs: []impl.Func{wideFunc(), counted(3)}}
	was := copyModule(m)
	for turn := 0; turn < 2; turn++ {
		if !impl.ShapeOk(m) {
			t.Error("shape", turn)
		}
		for _, f := range m.Funcs {
			for id := int64(-1); id <= impl.CountOf(f); id++ {
				w, again := impl.TypeOf(f, id), impl.TypeOf(f, id)
				b, at := impl.PlaceOf(f, id)
				b2, at2 := impl.PlaceOf(f, id)
				if w != again || b != b2 || at != at2 {
					t.Error(id)
				}
			}
			for _, b := range f.Blocks {
				for _, i := range b.Insts {
					impl.OperandsOf(i)
				}
			}
		}
	}
	if !reflect.DeepEqual(m, was) {
		t.Error("an argument was written into")
	}
}
