package tests

import (
	"math"
	"reflect"
	"strings"
	"testing"

	"loop.example/g00457/impl"
)

// constFunc has parameters of 8, 8, 1, 16 and constants of each width, which
// begin at id 4: of 8 (0, 1, 7, 255, 128), 1 (0, 1), 16 (0, 1, 300), 32 (0, 1,
// all bits); and behind them a copy of a constant, an addition and a store.
func constFunc() impl.Func {
	text := "func 8 8 8 1 16\nblock\nconst 8 0\nconst 8 1\nconst 8 7\nconst 8 255\nconst 8 128\nconst 1 0\nconst 1 1\nconst 16 0\nconst 16 1\nconst 16 300\nconst 32 0\nconst 32 1\nconst 32 4294967295\ncopy 8 4\nadd 8 0 1\nstore 0 14 0\nret 0\n"
	m, _ := impl.ReadModule(text)
	return m.Funcs[0]
}

func TestConstOf(t *testing.T) {
	f := constFunc()
	want := map[int64]int64{4: 0, 5: 1, 6: 7, 7: 255, 8: 128, 9: 0, 10: 1, 11: 0, 12: 1, 13: 300, 14: 0, 15: 1, 16: impl.MaxConst}
	for id := int64(-1); id <= impl.CountOf(f); id++ {
		v, ok := impl.ConstOf(f, id)
		if _, is := want[id]; ok != is || v != want[id] {
			t.Error(id, v, ok)
		}
	}
	for _, id := range strangeIds(f) {
		if v, ok := impl.ConstOf(f, id); ok || v != 0 {
			t.Error(id, v)
		}
	}
	// Phis stand ahead of instructions, and are none.
	g := impl.Func{Params: []int64{8}, Blocks: []impl.Block{
		{Phis: []impl.Phi{{W: 8}, {W: 8}}, Insts: []impl.Inst{{Op: impl.OpConst, Imm: 5}, {Op: impl.OpCall, Imm: 6}}},
		{Phis: []impl.Phi{{W: 8}}, Insts: []impl.Inst{{Op: impl.OpConst, Imm: 9}}},
	}}
	for id, v := range []int64{-1, -1, -1, 5, -1, -1, 9, -1} {
		if got, ok := impl.ConstOf(g, int64(id)); ok != (v >= 0) || got != max(v, 0) {
			t.Error(id, got, ok)
		}
	}
	// A function need not be in its form.
	odd := impl.Func{Blocks: []impl.Block{{Insts: []impl.Inst{{Op: impl.OpConst, W: 9, Imm: math.MinInt64}}}}}
	if v, ok := impl.ConstOf(odd, 0); !ok || v != math.MinInt64 {
		t.Error(v, ok)
	}
	if _, ok := impl.ConstOf(impl.Func{}, 0); ok {
		t.Error("nothing")
	}
}

// foldsTo holds what comes of instructions in constFunc against what should;
// "" is what stays.
func foldsTo(t *testing.T, texts map[string]string) {
	t.Helper()
	for text, want := range texts {
		i, ok := impl.ReadInst(text)
		if !ok {
			t.Fatal(text)
		}
		if want == "" {
			want = text
		}
		if got := impl.FoldedInst(constFunc(), i); impl.InstText(got) != want {
			t.Errorf("%q: %q, not %q", text, impl.InstText(got), want)
		}
	}
}

func TestFoldingOfTwoConstants(t *testing.T) {
	foldsTo(t, map[string]string{
		"add 8 6 7": "const 8 6", "sub 8 6 7": "const 8 8", "mul 8 7 7": "const 8 1", "udiv 8 7 6": "const 8 36", "sdiv 8 7 6": "const 8 0",
		"urem 8 7 6": "const 8 3", "srem 8 7 6": "const 8 255", "and 8 6 7": "const 8 7", "or 8 6 8": "const 8 135", "xor 8 7 6": "const 8 248",
		"shl 8 5 6": "const 8 128", "lshr 8 8 6": "const 8 1", "ashr 8 8 6": "const 8 255", "shl 8 6 7": "const 8 0",
		"eq 8 6 7": "const 1 0", "ne 8 6 7": "const 1 1", "ult 8 6 7": "const 1 1", "slt 8 6 7": "const 1 0",
		"add 32 16 15": "const 32 0", "mul 16 13 13": "const 16 24464", "xor 1 10 10": "const 1 0", "add 1 10 10": "const 1 0", "eq 32 16 16": "const 1 1",
		// The least number by -1 is what it was, with the rest 0.
		"sdiv 8 8 7": "const 8 128", "srem 8 8 7": "const 8 0",
		// By 0 it stays, whatever else would fit.
		"udiv 8 6 4": "", "sdiv 8 6 4": "", "urem 8 6 4": "", "srem 8 6 4": "", "udiv 8 4 4": "", "sdiv 8 8 4": "", "udiv 16 13 11": "", "srem 1 10 9": "",
	})
}

// Where both are constants, none of the other rules is asked.
func TestFoldingOfTwoConstantsComesFirst(t *testing.T) {
	foldsTo(t, map[string]string{
		"add 8 6 4": "const 8 7", "add 8 4 6": "const 8 7", "sub 8 6 4": "const 8 7", "mul 8 6 5": "const 8 7", "mul 8 5 6": "const 8 7", "udiv 8 6 5": "const 8 7",
		"mul 8 4 6": "const 8 0", "and 8 6 4": "const 8 0", "shl 8 6 4": "const 8 7", "and 8 6 6": "const 8 7", "or 8 6 6": "const 8 7", "sub 8 6 6": "const 8 0",
		// One that is no value of the width makes all stay.
		"add 8 13 4": "", "add 8 4 13": "", "mul 8 13 5": "", "mul 8 13 4": "", "mul 8 4 13": "", "and 8 13 4": "", "and 8 13 13": "", "sub 8 13 13": "", "eq 8 13 13": "", "ult 8 16 16": "", "udiv 1 6 10": "",
		// One of another width that is a value is one.
		"add 8 11 6": "const 8 7", "add 8 9 10": "const 8 1", "add 32 7 7": "const 32 510",
	})
}

func TestFoldingOfOneConstant(t *testing.T) {
	foldsTo(t, map[string]string{
		// B is 0.
		"add 8 0 4": "copy 8 0", "sub 8 0 4": "copy 8 0", "or 8 0 4": "copy 8 0", "xor 8 0 4": "copy 8 0", "shl 8 0 4": "copy 8 0", "lshr 8 0 4": "copy 8 0", "ashr 8 0 4": "copy 8 0",
		"udiv 8 0 4": "", "sdiv 8 0 4": "", "urem 8 0 4": "", "srem 8 0 4": "", "eq 8 0 4": "", "ne 8 0 4": "", "ult 8 0 4": "", "slt 8 0 4": "",
		// A is 0.
		"add 8 4 0": "copy 8 0", "or 8 4 0": "copy 8 0", "xor 8 4 0": "copy 8 0",
		"sub 8 4 0": "", "shl 8 4 0": "", "lshr 8 4 0": "", "ashr 8 4 0": "", "udiv 8 4 0": "", "sdiv 8 4 0": "", "urem 8 4 0": "", "srem 8 4 0": "", "eq 8 4 0": "", "ne 8 4 0": "", "ult 8 4 0": "", "slt 8 4 0": "",
		// B is 1, A is 1.
		"mul 8 0 5": "copy 8 0", "udiv 8 0 5": "copy 8 0", "mul 8 5 0": "copy 8 0",
		"sdiv 8 0 5": "", "urem 8 0 5": "", "srem 8 0 5": "", "udiv 8 5 0": "", "sdiv 8 5 0": "", "add 8 0 5": "", "and 8 0 5": "", "and 8 5 0": "", "shl 8 0 5": "", "sub 8 0 5": "", "or 8 5 0": "",
		// One is 0.
		"mul 8 0 4": "const 8 0", "mul 8 4 0": "const 8 0", "and 8 0 4": "const 8 0", "and 8 4 0": "const 8 0",
		// Neither 0 nor 1.
		"add 8 0 6": "", "mul 8 0 7": "", "and 8 0 7": "", "or 8 7 0": "", "udiv 8 0 7": "", "shl 8 0 8": "",
		// Of other widths, where 1 is all bits.
		"add 16 3 11": "copy 16 3", "mul 16 12 3": "copy 16 3", "and 16 11 3": "const 16 0", "mul 1 2 10": "copy 1 2", "and 1 2 9": "const 1 0", "and 1 2 10": "", "or 1 2 10": "", "xor 1 9 2": "copy 1 2", "udiv 1 2 10": "copy 1 2",
		// The other one is what comes, also when it is no parameter.
		"add 8 18 4": "copy 8 18", "or 8 4 17": "copy 8 17", "mul 8 19 5": "copy 8 19",
		// A copy of a constant is none.
		"add 8 0 17": "", "mul 8 17 0": "",
		// A constant of another width is one all the same.
		"add 8 0 14": "copy 8 0", "mul 8 0 10": "copy 8 0", "and 8 0 11": "const 8 0",
	})
}

func TestFoldingOfOneId(t *testing.T) {
	foldsTo(t, map[string]string{
		"sub 8 0 0": "const 8 0", "xor 8 0 0": "const 8 0", "ne 8 0 0": "const 1 0", "ult 8 0 0": "const 1 0", "slt 8 0 0": "const 1 0", "eq 8 0 0": "const 1 1", "and 8 0 0": "copy 8 0", "or 8 0 0": "copy 8 0",
		"sub 16 3 3": "const 16 0", "eq 16 3 3": "const 1 1", "slt 16 3 3": "const 1 0", "or 16 3 3": "copy 16 3", "xor 1 2 2": "const 1 0", "and 1 2 2": "copy 1 2", "sub 8 17 17": "const 8 0",
		"add 8 0 0": "", "mul 8 0 0": "", "udiv 8 0 0": "", "sdiv 8 0 0": "", "urem 8 0 0": "", "srem 8 0 0": "", "shl 8 0 0": "", "lshr 8 0 0": "", "ashr 8 0 0": "",
		"sub 8 0 1": "", "eq 8 0 1": "", "and 8 0 1": "", "ne 8 1 0": "", "or 8 18 1": "",
	})
}

func TestFoldingOfCasts(t *testing.T) {
	foldsTo(t, map[string]string{
		"zext 16 7": "const 16 255", "sext 16 7": "const 16 65535", "sext 32 8": "const 32 4294967168", "sext 16 6": "const 16 7", "zext 32 13": "const 32 300", "zext 8 10": "const 8 1", "sext 8 10": "const 8 255", "sext 32 9": "const 32 0",
		"trunc 8 13": "const 8 44", "trunc 1 13": "const 1 0", "trunc 1 7": "const 1 1", "trunc 16 16": "const 16 65535", "trunc 8 11": "const 8 0",
		// Where Casted is false it stays.
		"zext 8 7": "", "zext 8 13": "", "sext 1 10": "", "trunc 8 7": "", "trunc 16 7": "", "trunc 32 16": "",
		"zext 16 0": "", "sext 16 17": "", "trunc 1 0": "", "trunc 8 3": "",
	})
}

func TestFoldingOfSelects(t *testing.T) {
	foldsTo(t, map[string]string{
		"select 8 10 0 1": "copy 8 0", "select 8 9 0 1": "copy 8 1", "select 8 2 0 0": "copy 8 0", "select 8 2 0 1": "", "select 8 2 6 7": "",
		"select 16 10 3 13": "copy 16 3", "select 16 9 3 13": "copy 16 13", "select 1 2 10 10": "copy 1 10",
		// B and C are one id, whatever A is.
		"select 8 9 1 1": "copy 8 1", "select 8 10 1 1": "copy 8 1", "select 8 6 1 1": "copy 8 1",
		// Any constant but 1 chooses C.
		"select 8 4 0 1": "copy 8 1", "select 8 5 0 1": "copy 8 0", "select 8 6 0 1": "copy 8 1", "select 8 12 0 1": "copy 8 0", "select 8 13 0 1": "copy 8 1",
		// A and B, or A and C, are one id: that is nothing.
		"select 1 2 2 10": "", "select 1 2 10 2": "", "select 8 17 0 1": "", "select 8 0 0 1": "",
	})
}

func TestFoldingOfCopiesAndOthers(t *testing.T) {
	foldsTo(t, map[string]string{
		"copy 8 6": "const 8 7", "copy 8 4": "const 8 0", "copy 32 16": "const 32 4294967295", "copy 1 10": "const 1 1",
		// By its value, not by its width.
		"copy 8 11": "const 8 0", "copy 16 7": "const 16 255", "copy 1 5": "const 1 1", "copy 8 13": "", "copy 1 6": "", "copy 16 16": "",
		"copy 8 0": "", "copy 8 17": "", "copy 8 18": "", "copy 8 19": "",
		"const 8 5": "", "const 1 0": "", "load 8 14": "", "store 0 14 6": "", "store 0 6 6": "", "print 0 6": "", "call 8 0 4 5 9 11": "", "call 8 2": "", "call 16 1 4 4": "",
	})
}

// refFolded says the chapter's list again, rule by rule, with all of a rule's
// cases written out.
func refFolded(f impl.Func, i impl.Inst) impl.Inst {
	a, isA := impl.ConstOf(f, i.A)
	b, isB := impl.ConstOf(f, i.B)
	in := func(words string) bool {
		return i.Op <= impl.OpCopy && strings.Contains(" "+words+" ", " "+opNames()[i.Op-1]+" ")
	}
	w := i.W
	if in("eq ne ult slt") {
		w = 1
	}
	constant := func(v int64) impl.Inst { return impl.Inst{Op: impl.OpConst, W: w, Imm: v} }
	copied := func(id int64) impl.Inst { return impl.Inst{Op: impl.OpCopy, W: w, A: id} }
	if i.Op <= impl.OpSLt {
		switch v, code := impl.Binary(i.Op, i.W, a, b); {
		case isA && isB && code == impl.BnOk:
			return constant(v)
		case isA && isB:
			return i
		case isB && b == 0 && in("add sub or xor shl lshr ashr"):
			return copied(i.A)
		case isA && a == 0 && in("add or xor"):
			return copied(i.B)
		case isB && b == 1 && in("mul udiv"):
			return copied(i.A)
		case isA && a == 1 && in("mul"):
			return copied(i.B)
		case (isA && a == 0 || isB && b == 0) && in("mul and"):
			return constant(0)
		case i.A == i.B && in("sub xor ne ult slt"):
			return constant(0)
		case i.A == i.B && in("eq"):
			return constant(1)
		case i.A == i.B && in("and or"):
			return copied(i.A)
		}
		return i
	}
	switch v, ok := impl.Casted(i.Op, impl.TypeOf(f, i.A), i.W, a); {
	case in("zext sext trunc") && isA && ok:
		return constant(v)
	case in("select") && (isA && a == 1 || i.B == i.C):
		return copied(i.B)
	case in("select") && isA:
		return copied(i.C)
	case in("copy") && isA && a >= 0 && a <= topOf(i.W):
		return constant(a)
	}
	return i
}

// Each op with any two of constFunc's ids, whatever their widths.
func TestFoldingAgainstOtherWays(t *testing.T) {
	f := constFunc()
	n := impl.CountOf(f)
	for op := int64(1); op <= impl.OpCopy; op++ {
		for _, w := range append(widths(), 0) {
			for k := range n * n {
				ids := []int64{k % n, k / n, (k*7 + 3) % n}[:len(impl.OperandsOf(impl.Inst{Op: op}))]
				if op == impl.OpCall {
					ids = []int64{k % n, k / n}
				}
				i := naming(impl.Inst{Op: op, W: w}, ids)
				want := impl.Inst{}
				if impl.InstText(i) != "" {
					want = refFolded(f, i)
				}
				if got := impl.FoldedInst(f, i); !sameInst(got, want) {
					t.Fatal(i, got, want)
				}
			}
		}
	}
}

func TestNotFolded(t *testing.T) {
	f := constFunc()
	zero := func(name string, f impl.Func, i impl.Inst) {
		t.Helper()
		if got := impl.FoldedInst(f, i); !reflect.DeepEqual(got, impl.Inst{}) {
			t.Error(name, i, got)
		}
	}
	n := impl.CountOf(f)
	for op := int64(1); op <= impl.OpCopy; op++ {
		count := len(impl.OperandsOf(rightInst(op)))
		for at := range count {
			for _, id := range strangeIds(f) {
				var ids []int64
				for range count {
					ids = append(ids, 4)
				}
				i := naming(rightInst(op), ids)
				if got := impl.FoldedInst(f, i); got.Op == 0 {
					t.Error(op, "could stand")
				}
				ids[at] = id
				zero("no id", f, naming(rightInst(op), ids))
			}
		}
		i := rightInst(op)
		i.W = 9
		zero("no width", f, i)
		i = rightInst(op)
		i.Imm = 256
		zero("no such number", f, i)
		if op != impl.OpCall {
			i = rightInst(op)
			i.Args = []int64{0}
			zero("args", f, i)
		}
		if op != impl.OpSelect {
			i = rightInst(op)
			i.C = 1
			zero("a field too many", f, i)
		}
	}
	for _, op := range []int64{math.MinInt64, -1, 0, 28, 31, math.MaxInt64} {
		zero("no op", f, impl.Inst{Op: op, W: 8})
	}
	zero("too many args", f, impl.Inst{Op: impl.OpCall, W: 8, Args: make([]int64, impl.MaxParams+1)})
	zero("no function", f, impl.Inst{Op: impl.OpCall, W: 8, Imm: impl.MaxFuncs})
	if got := impl.FoldedInst(f, impl.Inst{Op: impl.OpCall, W: 8, Imm: impl.MaxFuncs - 1}); got.Imm != impl.MaxFuncs-1 {
		t.Error("the last function", got)
	}
	if got := impl.FoldedInst(f, impl.Inst{Op: impl.OpCopy, W: 8, A: n - 1}); got.Op != impl.OpCopy {
		t.Error("the last id", got)
	}
	for name, g := range formless() {
		zero(name, g, impl.Inst{Op: impl.OpConst, W: 8, Imm: 1})
	}
	// A function that is full holds it in the place of another one.
	if got := impl.FoldedInst(counted(impl.MaxValues), impl.Inst{Op: impl.OpAdd, W: 8, A: 1, B: 59}); !sameInst(got, impl.Inst{Op: impl.OpConst, W: 8, Imm: 60}) {
		t.Error(got)
	}
	zero("one id too many", counted(impl.MaxValues+1), impl.Inst{Op: impl.OpAdd, W: 8, A: 1, B: 59})
}

// One folding makes the next, but not what stands ahead of it.
func TestFoldedByHand(t *testing.T) {
	passesTo(t, impl.Folded, map[string]string{
		"func 8\nblock\nconst 8 3\nadd 8 0 0\nmul 8 1 1\nsub 8 2 0\nret 3\n":                             "func 8\nblock\nconst 8 3\nconst 8 6\nconst 8 36\nconst 8 33\nret 3\n",
		"func 8 8\nblock\nsub 8 0 0\nadd 8 0 1\nmul 8 2 1\neq 8 2 2\nselect 8 4 0 3\ncopy 8 3\nret 6\n":  "func 8 8\nblock\nconst 8 0\ncopy 8 0\nconst 8 0\nconst 1 1\ncopy 8 0\nconst 8 0\nret 6\n",
		"func 8 8\nblock\nconst 8 0\nudiv 8 0 1\nudiv 8 1 1\nconst 8 1\nudiv 8 0 4\nsdiv 8 0 4\nret 2\n": "func 8 8\nblock\nconst 8 0\nudiv 8 0 1\nudiv 8 1 1\nconst 8 1\ncopy 8 0\nsdiv 8 0 4\nret 2\n",
		// A block that runs later stands ahead of what it names.
		"func 8\nblock\njump 2\nblock\nadd 8 1 1\nret 0\nblock\nconst 8 3\njump 1\n":            "func 8\nblock\njump 2\nblock\nconst 8 6\nret 0\nblock\nconst 8 3\njump 1\n",
		"func 8\nblock\njump 2\nblock\nadd 8 2 2\nret 0\nblock\nconst 8 3\nadd 8 1 1\njump 1\n": "func 8\nblock\njump 2\nblock\nadd 8 2 2\nret 0\nblock\nconst 8 3\nconst 8 6\njump 1\n",
		// Where no run comes one may name itself.
		"func 8 8\nblock\nret 0\nblock\nadd 8 1 1\nsub 8 2 2\ncopy 8 1\njump 1\n": "func 8 8\nblock\nret 0\nblock\nadd 8 1 1\nconst 8 0\ncopy 8 1\njump 1\n",
		// Phis and ends stay, and each function has its own ids.
		"func 8 8\nblock\nconst 8 0\nadd 8 0 1\njump 1\nblock\nphi 8 1\nadd 8 3 1\nret 4\nfunc 8 8\nblock\nconst 8 5\nadd 8 0 1\ncall 8 0 1\nret 3\n": "func 8 8\nblock\nconst 8 0\ncopy 8 0\njump 1\nblock\nphi 8 1\ncopy 8 3\nret 4\nfunc 8 8\nblock\nconst 8 5\nadd 8 0 1\ncall 8 0 1\nret 3\n",
		// Nothing is folded that asks for more than its operands.
		"func 8\nblock\nconst 32 1\nload 8 0\nstore 0 0 1\nprint 0 0\ncall 8 0\nret 1\n": "func 8\nblock\nconst 32 1\nload 8 0\nstore 0 0 1\nprint 0 0\ncall 8 0\nret 1\n",
		"func 8 8\nblock\nret 0\n": "func 8 8\nblock\nret 0\n",
		"func 8\nblock\ntrap\n":    "func 8\nblock\ntrap\n",
	})
}

func TestFoldedAgainstOtherWays(t *testing.T) {
	folded := map[int64]int{}
	for seed := range uint64(300) {
		m := busyModule(seed)
		want := copyModule(m)
		for k := range want.Funcs {
			f := &want.Funcs[k]
			for _, i := range instPlaces(f) {
				was := *i
				if *i = refFolded(*f, *i); !sameInst(was, *i) {
					folded[was.Op]++
				}
			}
		}
		if got, ok := impl.Folded(m); !ok || !sameModule(got, want) {
			t.Fatal(impl.ModuleText(m), impl.ModuleText(got), ok)
		}
	}
	for op := int64(1); op <= impl.OpCopy; op++ {
		may := op != impl.OpConst && (op < impl.OpLoad || op == impl.OpCopy)
		if may != (folded[op] > 0) {
			t.Error(op, folded[op])
		}
	}
}

func TestWhatIsFoldedIsRightAndRunsStepByStep(t *testing.T) { runsStepByStep(t, impl.Folded) }

// Divisions that fail do so after as before.
func TestFoldedDivisionsFail(t *testing.T) {
	for _, op := range []string{"udiv", "sdiv", "urem", "srem"} {
		for _, line := range []string{" 8 2 1", " 8 0 1", " 8 1 1", " 8 2 3"} {
			text := "func 8 8\nblock\nconst 8 0\nconst 8 9\nsub 8 0 0\n" + op + line + "\nprint 0 4\nret 4\n"
			want := impl.Result{Code: impl.RsZero, Mem: noughts(), Steps: 4}
			runsTo(t, text, []int64{5}, noughts(), 99, want)
			runsTo(t, passed(t, impl.Folded, text), []int64{5}, noughts(), 99, want)
		}
	}
}

func TestFoldedRefuses(t *testing.T) { refusesWrong(t, impl.Folded) }

func TestFoldingWritesNothing(t *testing.T) {
	writesNothing(t, impl.Folded)
	// What stays is new memory, too.
	f := calledModule().Funcs[0]
	back := []int64{0, 1, 4, 77, 78}
	for _, i := range []impl.Inst{{Op: impl.OpCall, W: 8, Args: back[:3]}, {Op: impl.OpCall, W: 8, Args: back[:0]}, {Op: impl.OpAdd, W: 8, Args: back[:0]}} {
		got := impl.FoldedInst(f, i)
		if got.Op != i.Op || !sameList(got.Args, i.Args) || shareMemory(got, back) {
			t.Error(i, got)
		}
		_ = append(got.Args, 99, 99)
	}
	if !sameList(back, []int64{0, 1, 4, 77, 78}) || !reflect.DeepEqual(f, calledModule().Funcs[0]) {
		t.Error("written into an argument", back)
	}
	two := impl.FoldedInst(constFunc(), impl.Inst{Op: impl.OpUDiv, W: 8, A: 4, B: 4, Args: back[:0]})
	if two.Op != impl.OpUDiv || shareMemory(two, back) {
		t.Error(two)
	}
}
