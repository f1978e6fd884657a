package tests

import (
	"math"
	"reflect"
	"slices"
	"strings"
	"testing"

	"loop.example/g00457/impl"
)

func TestEachOpOfAProgram(t *testing.T) {
	for _, op := range machineOps() {
		for _, regs := range []int64{1, 3, impl.MaxRegs} {
			i := rightMIns(op, regs)
			if !impl.ProgramOk(holdingMIns(i, regs)) {
				t.Error(op, regs)
			}
			for _, name := range "WDABCI" {
				if strings.ContainsRune(usedFields(op), name) {
					continue
				}
				for _, n := range []int64{math.MinInt64, -1, 1, 2, 8, math.MaxInt64} {
					x := i
					*fieldOf(&x, name) = n
					if impl.ProgramOk(holdingMIns(x, regs)) {
						t.Error(op, regs, string(name), n)
					}
				}
			}
		}
	}
}

func TestNoOpOfAProgram(t *testing.T) {
	for _, op := range []int64{math.MinInt64, -35, -1, 0, impl.OpCall, impl.OpCopy, 28, 29, 30, 36, 37, 63, 64, 1 << 32, math.MaxInt64} {
		for _, i := range []impl.MIns{{Op: op}, {Op: op, W: 8}, {Op: op, W: 8, A: 1}, {Op: op, W: 8, D: 1, A: 1, B: 1}, {Op: op, Imm: 1}} {
			p := holdingMIns(i, 3)
			if impl.ProgramOk(p) || impl.ProgramOk(impl.Program{Regs: 3, Code: p.Code[:1]}) || impl.ProgramBytes(p) != "" {
				t.Error(op, i)
			}
		}
	}
}

func TestRegistersOfPrograms(t *testing.T) {
	const regs = 5
	for _, op := range machineOps() {
		for _, name := range usedFields(op) {
			if name == 'W' || name == 'I' || name == 'C' && isCast(op) {
				continue
			}
			for _, n := range []int64{math.MinInt64, -2, -1, 0, 1, 4, 5, 6, impl.MaxRegs - 1, impl.MaxRegs, math.MaxInt64} {
				i := rightMIns(op, 1)
				*fieldOf(&i, name) = n
				if ok := impl.ProgramOk(holdingMIns(i, regs)); ok != (n >= 0 && n < regs) {
					t.Error(op, string(name), n, ok)
				}
				if ok := impl.ProgramOk(holdingMIns(i, impl.MaxRegs)); ok != (n >= 0 && n < impl.MaxRegs) {
					t.Error(op, string(name), n, ok)
				}
			}
		}
	}
	// A width of a cast stands where others have a register: it need not be one.
	if !impl.ProgramOk(holdingMIns(impl.MIns{Op: impl.OpTrunc, W: 16, C: 32}, 1)) {
		t.Error("a width as a register")
	}
}

func TestWidthsOfPrograms(t *testing.T) {
	for _, op := range machineOps() {
		if !strings.Contains(usedFields(op), "W") {
			continue
		}
		for _, w := range append(widths(), strangeWidths()...) {
			i := rightMIns(op, 3)
			i.W = w
			if op == impl.OpConst {
				i.Imm = 1
			}
			of := []int64{i.C}
			if isCast(op) {
				of = append(widths(), strangeWidths()...)
			}
			for _, i.C = range of {
				want := has(widths(), w) && (op != impl.OpLoad || w == 8)
				if isCast(op) {
					want = want && has(widths(), i.C) && (i.C < w && op != impl.OpTrunc || i.C > w && op == impl.OpTrunc)
				}
				if ok := impl.ProgramOk(holdingMIns(i, 3)); ok != want {
					t.Error(i, ok)
				}
			}
		}
	}
}

func TestImmsOfPrograms(t *testing.T) {
	for _, w := range widths() {
		for _, v := range edgesOf(w) {
			if !impl.ProgramOk(holdingMIns(impl.MIns{Op: impl.OpConst, W: w, Imm: v}, 1)) {
				t.Error(w, v)
			}
		}
		for _, v := range strangeValues(w) {
			if impl.ProgramOk(holdingMIns(impl.MIns{Op: impl.OpConst, W: w, Imm: v}, 1)) {
				t.Error(w, v)
			}
		}
	}
	for _, op := range []int64{impl.MvJump, impl.MvIf} {
		for count := 1; count <= impl.MaxCode; count += 1 + count/2 {
			p := impl.Program{Regs: 1}
			for range count {
				p.Code = append(p.Code, impl.MIns{Op: impl.MvTrap})
			}
			for _, to := range []int64{math.MinInt64, -1, 0, int64(count) / 2, int64(count) - 1, int64(count), int64(count) + 1, math.MaxInt64} {
				p.Code[0] = impl.MIns{Op: op, Imm: to}
				want := to >= 0 && to < int64(count) && (count > 1 || op == impl.MvJump)
				if ok := impl.ProgramOk(p); ok != want {
					t.Error(op, count, to, ok)
				}
			}
		}
	}
}

func TestLimitsOfPrograms(t *testing.T) {
	trap := []impl.MIns{{Op: impl.MvTrap}}
	for regs, want := range map[int64]bool{math.MinInt64: false, -1: false, 0: false, 1: true, 2: true, 129: true, impl.MaxRegs: true, impl.MaxRegs + 1: false, 1 << 40: false, math.MaxInt64: false} {
		if ok := impl.ProgramOk(impl.Program{Regs: regs, Code: trap}); ok != want {
			t.Error(regs, ok)
		}
	}
	for _, count := range []int{0, 1, 2, 599, impl.MaxCode, impl.MaxCode + 1, 5000} {
		p := impl.Program{Regs: 1}
		for range count {
			p.Code = append(p.Code, trap...)
		}
		if ok := impl.ProgramOk(p); ok != (count >= 1 && count <= impl.MaxCode) {
			t.Error(count, ok)
		}
	}
	if impl.ProgramOk(impl.Program{}) || impl.ProgramOk(impl.Program{Regs: 1, Code: []impl.MIns{}}) {
		t.Error("nothing")
	}
}

func TestParamsOfPrograms(t *testing.T) {
	with := func(params []int64, widths []int64) bool {
		return impl.ProgramOk(impl.Program{Regs: 3, Params: params, Widths: widths, Code: []impl.MIns{{Op: impl.MvTrap}}})
	}
	for params := range 7 {
		for count := range 7 {
			if ok := with(make([]int64, params), slices.Repeat([]int64{8}, count)); ok != (params == count && params <= impl.MaxParams) {
				t.Error(params, count, ok)
			}
		}
	}
	for at := range 4 {
		for _, reg := range []int64{math.MinInt64, -1, 0, 1, 2, 3, impl.MaxRegs, math.MaxInt64} {
			l := []int64{0, 1, 2, 0}
			l[at] = reg
			if ok := with(l, widths()); ok != (reg >= 0 && reg < 3) {
				t.Error(at, reg, ok)
			}
		}
		for _, w := range append(widths(), strangeWidths()...) {
			l := []int64{1, 1, 1, 1}
			l[at] = w
			if ok := with([]int64{2, 1, 0, 0}, l); ok != has(widths(), w) {
				t.Error(at, w, ok)
			}
		}
	}
	if !with(nil, nil) || !with([]int64{}, nil) || with(nil, []int64{8}) || with([]int64{0}, nil) {
		t.Error("none")
	}
}

// The last one must not go on, whatever stands ahead of it.
func TestLastOneOfAProgram(t *testing.T) {
	for _, op := range machineOps() {
		i := rightMIns(op, 2)
		if strings.Contains(usedFields(op), "I") {
			i.Imm = 0
		}
		for _, ahead := range [][]impl.MIns{nil, {{Op: impl.MvTrap}}, {{Op: impl.MvRet, W: 8}, {Op: impl.MvJump}}} {
			p := impl.Program{Regs: 2, Code: append(slices.Clone(ahead), i)}
			if ok := impl.ProgramOk(p); ok != endsCode(op) {
				t.Error(op, len(ahead), ok)
			}
		}
	}
}

func TestProgramsAgainstOtherWays(t *testing.T) {
	d := &dice{seed: 91}
	right, wrong := 0, 0
	for seed := range uint64(400) {
		p := madeProgram(seed)
		if !impl.ProgramOk(p) || !refProgramOk(p) {
			t.Fatal(programText(p))
		}
		for range 20 {
			x := disturbedProgram(p, d)
			want := refProgramOk(x)
			if ok := impl.ProgramOk(x); ok != want {
				t.Fatal(programText(x), ok)
			}
			if want {
				right++
			} else {
				wrong++
			}
		}
	}
	if right < 500 || wrong < 500 {
		t.Error(right, wrong)
	}
}

// emits holds what is emitted for functions against what should be: registers,
// parameters, their widths, and the code.
func emits(t *testing.T, texts map[string]string) {
	t.Helper()
	for text, want := range texts {
		p, ok := impl.Emitted(rightModule(t, text).Funcs[0])
		if got := programText(p); !ok || got != want {
			t.Errorf("%q: %t %q, not %q", text, ok, got, want)
		}
		if !impl.ProgramOk(p) {
			t.Errorf("%q: not right", text)
		}
	}
}

func TestEmittedByHand(t *testing.T) {
	emits(t, map[string]string{
		// Without values, and with some that nobody needs.
		"func 8\nblock\ntrap\n":                                  "1 | | | trap",
		"func 8\nblock\njump 1\nblock\njump 1\n":                 "1 | | | jump 1; jump 1",
		"func 8 8 32\nblock\ntrap\n":                             "2 | 0 1 | 8 32 | trap",
		"func 8 8\nblock\nret 0\n":                               "1 | 0 | 8 | ret 8 0",
		"func 16\nblock\nconst 16 65535\nret 0\n":                "1 | | | const 16 0 65535; ret 16 0",
		"func 1 8 8\nblock\nult 8 1 0\nret 2\n":                  "2 | 0 1 | 8 8 | ult 8 0 1 0; ret 1 0",
		"func 8 1 8 16 32\nblock\nprint 0 3\nprint 0 0\nret 1\n": "4 | 0 1 2 3 | 1 8 16 32 | print 3; print 0; ret 8 1",
		// What gives nothing stands between.
		"func 8 32 8\nblock\nstore 0 0 1\nadd 8 1 1\nprint 0 3\nload 8 0\nret 5\n": "2 | 0 1 | 32 8 | store 0 1; add 8 1 1 1; print 1; load 8 0 0; ret 8 0",
		// Jumps without phis, blocks out of order, one that nobody comes to.
		"func 8 8\nblock\njump 2\nblock\nret 0\nblock\nprint 0 0\njump 1\n": "1 | 0 | 8 | jump 2; ret 8 0; print 0; jump 1",
		"func 8 8\nblock\nret 0\nblock\ncopy 8 0\njump 1\n":                 "2 | 0 | 8 | ret 8 0; move 8 1 0; jump 1",
		// A branch: Y first, then X.
		"func 8 8 8 1\nblock\nbranch 2 1 2\nblock\nret 0\nblock\nret 1\n": "3 | 0 1 2 | 8 8 1 | if 2 2; jump 4; jump 3; ret 8 0; ret 8 1",
		"func 8 8 8 1\nblock\nbranch 2 2 1\nblock\nret 0\nblock\nret 1\n": "3 | 0 1 2 | 8 8 1 | if 2 2; jump 3; jump 4; ret 8 0; ret 8 1",
		// With phis at X, at Y and at both.
		"func 8 8 1\nblock\nconst 8 7\nbranch 1 1 2\nblock\njump 2\nblock\nphi 8 2 0\nret 3\n":     "4 | 0 1 | 8 1 | const 8 2 7; if 1 5; move 8 3 2; move 8 0 3; jump 9; jump 6; move 8 3 0; move 8 0 3; jump 9; ret 8 0",
		"func 8 8 1\nblock\nconst 8 7\nbranch 1 2 1\nblock\njump 2\nblock\nphi 8 2 0\nret 3\n":     "4 | 0 1 | 8 1 | const 8 2 7; if 1 3; jump 6; move 8 3 2; move 8 0 3; jump 9; move 8 3 0; move 8 0 3; jump 9; ret 8 0",
		"func 8 8 1\nblock\nbranch 1 1 2\nblock\nphi 1 1\nphi 8 0\nret 3\nblock\nphi 8 0\nret 4\n": "4 | 0 1 | 8 1 | if 1 4; move 8 2 0; move 8 0 2; jump 10; move 1 2 1; move 8 3 0; move 1 0 2; move 8 1 3; jump 9; ret 8 1; ret 8 0",
		// Two that change places in a loop; one that leads to itself.
		"func 8 8 8 1\nblock\njump 1\nblock\nphi 8 0 4\nphi 8 1 3\nbranch 2 1 2\nblock\nret 3\n": "5 | 0 1 2 | 8 8 1 | move 8 3 0; move 8 4 1; move 8 0 3; move 8 1 4; jump 5; if 2 7; jump 12; move 8 3 1; move 8 4 0; move 8 0 3; move 8 1 4; jump 5; ret 8 0",
		sumText(): "7 | 0 | 8 | const 8 1 0; const 8 2 1; move 8 5 0; move 8 6 1; move 8 0 5; move 8 3 6; jump 7; ne 8 4 0 1; if 4 10; jump 18; jump 11; sub 8 4 0 2; add 8 0 3 0; move 8 5 4; move 8 6 0; move 8 0 5; move 8 3 6; jump 7; ret 8 3",
		// The most phis of a block count, not those of all; where nobody leads, too.
		"func 8 8\nblock\njump 1\nblock\nphi 8 0\njump 2\nblock\nphi 8 1\nphi 8 1\nret 2\n": "4 | 0 | 8 | move 8 2 0; move 8 0 2; jump 3; move 8 2 0; move 8 3 0; move 8 0 2; move 8 1 3; jump 8; ret 8 0",
		"func 8\nblock\ntrap\nblock\nphi 8\nphi 8\nphi 8\ntrap\n":                           "6 | | | trap; trap",
	})
}

// withOp has parameters of the four widths, that instruction (id 4), and tells
// all parameters behind it, so that no two of them share a register.
func withOp(i impl.Inst) impl.Func {
	f := impl.Func{Params: widths(), Ret: 8, Blocks: []impl.Block{{Insts: []impl.Inst{i}, Term: retOf(1)}}}
	for id := range int64(4) {
		f.Blocks[0].Insts = append(f.Blocks[0].Insts, impl.Inst{Op: impl.OpPrint, A: id})
	}
	return f
}

func TestEmittedOfEachOp(t *testing.T) {
	asked := map[int64]int{}
	for op := int64(impl.OpAdd); op <= impl.OpCopy; op++ {
		for _, w := range append(widths(), 0) {
			for k := range int64(64) {
				i := naming(impl.Inst{Op: op, W: w}, []int64{k % 4, k / 4 % 4, k / 16}[:len(impl.OperandsOf(impl.Inst{Op: op}))])
				if op == impl.OpConst {
					i.Imm = 1
				}
				f := withOp(i)
				if op == impl.OpCall || impl.Checked(alone(f)) != impl.VfOk {
					continue
				}
				want := impl.MIns{Op: op, W: w, A: i.A, B: i.B, C: i.C, Imm: i.Imm}
				if w > 0 {
					want.D = 4
				}
				if isCast(op) {
					want.C = widths()[i.A]
				}
				if op == impl.OpCopy {
					want.Op = impl.MvMove
				}
				p, ok := impl.Emitted(f)
				if !ok || !impl.ProgramOk(p) || p.Code[0] != want || len(p.Code) != 6 || p.Regs != 4+bit(w > 0) {
					t.Fatal(i, programText(p))
				}
				asked[op]++
			}
		}
	}
	for op := int64(impl.OpAdd); op <= impl.OpCopy; op++ {
		if op != impl.OpCall && asked[op] == 0 {
			t.Error(op)
		}
	}
}

func TestEmittedRefuses(t *testing.T) {
	refused := func(name string, f impl.Func) {
		t.Helper()
		if p, ok := impl.Emitted(f); ok || !isNoProgram(p) {
			t.Error(name, ok, programText(p))
		}
	}
	for name, f := range formless() {
		refused(name, f)
	}
	for _, x := range faults() {
		m := calledModule()
		x.spoil(&m.Funcs[0])
		refused(x.name, m.Funcs[0])
		// Without its call it is the fault alone that counts.
		f := uncalled(m.Funcs[0])
		if x.code != impl.VfCall {
			refused(x.name, f)
		}
	}
	// A call: of itself, in a block that is not reached, of another module's function, that does not fit.
	for _, text := range []string{
		"func 8 8\nblock\ncall 8 0 0\nret 1\n",
		"func 8 8\nblock\nret 0\nblock\ncall 8 0 0\nret 1\n",
		"func 8 8\nblock\ncall 8 1 0\nret 1\nfunc 8 8\nblock\nret 0\n",
		"func 8 8\nblock\ncall 8 0\nret 1\n",
		"func 8 8\nblock\nadd 8 0 0\ncall 16 0\nret 1\n",
	} {
		refused(text, readFunc(t, text))
	}
	if _, ok := impl.Emitted(uncalled(calledModule().Funcs[0])); !ok {
		t.Error("without its call it is right")
	}
}

// uncalled has a constant in the place of each call.
func uncalled(f impl.Func) impl.Func {
	f = copyFunc(f)
	for _, i := range instPlaces(&f) {
		if i.Op == impl.OpCall {
			*i = constInst(i.W, 1)
		}
	}
	return f
}

// emitFuncs are right functions without calls.
func emitFuncs(count uint64) []impl.Func {
	var l []impl.Func
	for _, m := range graphModules(count) {
		for _, f := range m.Funcs {
			l = append(l, uncalled(f))
		}
	}
	return l
}

// refEdge is the edge from b to another block, which begins at that place.
func refEdge(f impl.Func, b int64, to int64, top int64, begin int64) []impl.MIns {
	colours := impl.ColoursOf(f)
	at := slices.Index(refDrawing(f).preds[to], b)
	var save, load []impl.MIns
	for k, p := range f.Blocks[to].Phis {
		save = append(save, impl.MIns{Op: impl.MvMove, W: p.W, D: top + int64(k), A: colours[p.Ins[at]]})
		load = append(load, impl.MIns{Op: impl.MvMove, W: p.W, D: colours[idsOfBlocks(f)[to][k]], A: top + int64(k)})
	}
	return append(append(save, load...), impl.MIns{Op: impl.MvJump, Imm: begin})
}

// refBegins works out where each block begins by how long edges are.
func refBegins(f impl.Func) []int64 {
	l := []int64{0}
	for b, block := range f.Blocks {
		size := int64(len(block.Insts))
		succs := refDrawing(f).succs[b]
		for _, to := range succs {
			size += 2*int64(len(f.Blocks[to].Phis)) + 1
		}
		if len(succs) != 1 {
			size++
		}
		l = append(l, l[b]+size)
	}
	return l
}

func refEmitted(f impl.Func) impl.Program {
	colours := impl.ColoursOf(f)
	begins := refBegins(f)
	top := slices.Max(append(copyList(colours), -1)) + 1
	phis := int64(0)
	for _, b := range f.Blocks {
		phis = max(phis, int64(len(b.Phis)))
	}
	p := impl.Program{Regs: max(top+phis, 1), Params: copyList(colours[:len(f.Params)]), Widths: copyList(f.Params)}
	for b, block := range f.Blocks {
		for k, i := range block.Insts {
			x := impl.MIns{Op: i.Op, W: i.W, Imm: i.Imm, D: max(0, colours[idsOfBlocks(f)[b][len(block.Phis)+k]])}
			for at, id := range impl.OperandsOf(i) {
				*[]*int64{&x.A, &x.B, &x.C}[at] = colours[id]
			}
			if isCast(i.Op) {
				x.C = impl.TypeOf(f, i.A)
			}
			if i.Op == impl.OpCopy {
				x.Op = impl.MvMove
			}
			p.Code = append(p.Code, x)
		}
		switch e := block.Term; e.Kind {
		case impl.TmRet:
			p.Code = append(p.Code, impl.MIns{Op: impl.MvRet, W: f.Ret, A: colours[e.A]})
		case impl.TmTrap:
			p.Code = append(p.Code, impl.MIns{Op: impl.MvTrap})
		case impl.TmJump:
			p.Code = append(p.Code, refEdge(f, int64(b), e.X, top, begins[e.X])...)
		default:
			left := refEdge(f, int64(b), e.Y, top, begins[e.Y])
			p.Code = append(p.Code, impl.MIns{Op: impl.MvIf, A: colours[e.A], Imm: int64(len(p.Code) + 1 + len(left))})
			p.Code = append(append(p.Code, left...), refEdge(f, int64(b), e.X, top, begins[e.X])...)
		}
	}
	return p
}

func TestEmittedAgainstOtherWays(t *testing.T) {
	moves, ifs := 0, 0
	for _, f := range emitFuncs(120) {
		want := refEmitted(f)
		p, ok := impl.Emitted(f)
		if !ok || !impl.ProgramOk(p) || !sameProgram(p, want) {
			t.Fatal(impl.ModuleText(alone(f)), ok, programText(p), programText(want))
		}
		for _, i := range p.Code {
			moves += int(bit(i.Op == impl.MvMove))
			ifs += int(bit(i.Op == impl.MvIf))
		}
	}
	if moves < 1000 || ifs < 200 {
		t.Error(moves, ifs)
	}
}

// crowded leads, from nine blocks, to one with many phis: it has so much code
// and that many constants more.
func crowded(phis int, constants int) impl.Func {
	f := impl.Func{Params: []int64{1, 8}, Ret: 8}
	for b := range int64(impl.MaxBlocks - 2) {
		f.Blocks = append(f.Blocks, impl.Block{Term: branchOf(0, b+1, impl.MaxBlocks-1)})
	}
	for range constants {
		f.Blocks[0].Insts = append(f.Blocks[0].Insts, constInst(8, 3))
	}
	f.Blocks = append(f.Blocks, impl.Block{Term: jumpTo(impl.MaxBlocks - 1)})
	last := impl.Block{Term: retOf(int64(2 + constants))}
	for range phis {
		last.Phis = append(last.Phis, impl.Phi{W: 8, Ins: slices.Repeat([]int64{1}, impl.MaxBlocks-1)})
	}
	f.Blocks = append(f.Blocks, last)
	return f
}

// Just as much code as there may be, and one more.
func TestEmittedAtLimits(t *testing.T) {
	for phis := 28; phis <= 34; phis++ {
		for constants := range 24 {
			f := crowded(phis, constants)
			if c := impl.Checked(alone(f)); c != impl.VfOk {
				t.Fatal(c)
			}
			// Eight branches with an edge to both, a jump, and the end.
			count := constants + 8*(1+1+2*phis+1) + 2*phis + 1 + 1
			want := refEmitted(f)
			if len(want.Code) != count {
				t.Fatal(len(want.Code), count)
			}
			p, ok := impl.Emitted(f)
			if ok != (count <= impl.MaxCode) || ok && !sameProgram(p, want) || !ok && !isNoProgram(p) {
				t.Error(phis, constants, count, ok)
			}
			if ok && !impl.ProgramOk(p) {
				t.Error(phis, constants)
			}
		}
	}
	full := crowded(31, 16)
	if p, ok := impl.Emitted(full); !ok || len(p.Code) != impl.MaxCode {
		t.Error(len(p.Code))
	}
	if p, ok := impl.Emitted(crowded(31, 17)); ok || !isNoProgram(p) {
		t.Error(len(p.Code))
	}
	for v := range int64(2) {
		runsAsEmitted(t, full, []int64{v, 200}, noughts())
	}
	// As many registers as there may be.
	if p, ok := impl.Emitted(turning()); !ok || p.Regs != 60+59 || len(p.Code) != 1+119+1+1+119+1 || !sameProgram(p, refEmitted(turning())) {
		t.Error(programText(p))
	}
	ring := impl.Func{Ret: 8, Blocks: []impl.Block{{Term: trapEnd()}, {Term: jumpTo(1)}}}
	for id := range int64(impl.MaxValues) {
		ring.Blocks[1].Phis = append(ring.Blocks[1].Phis, impl.Phi{W: 8, Ins: []int64{(id + 1) % impl.MaxValues}})
	}
	if p, ok := impl.Emitted(ring); !ok || p.Regs != 2*impl.MaxValues || !impl.ProgramOk(p) || !sameProgram(p, refEmitted(ring)) {
		t.Error(programText(p))
	}
}

// runsAsEmitted holds a run of what is emitted against a run of the function,
// and tells whether both ended with fuel left.
func runsAsEmitted(t *testing.T, f impl.Func, args []int64, mem string) bool {
	t.Helper()
	p, ok := impl.Emitted(f)
	was := impl.Invoked(alone(f), 0, args, mem, impl.MaxFuel)
	is := impl.MachineRun(p, args, mem, 10*impl.MaxFuel)
	if !ok || was.Code == impl.RsForm || is.Code == impl.RsForm {
		t.Fatal(impl.ModuleText(alone(f)), ok, was, is)
	}
	if was.Code == impl.RsFuel || is.Code == impl.RsFuel {
		return false
	}
	if !sameResult(impl.Seen(was), impl.Seen(is)) || is.Steps < was.Steps {
		t.Fatal(impl.ModuleText(alone(f)), programText(p), args, was, is)
	}
	return true
}

// What is emitted does what the function does.
func TestWhatIsEmittedRunsAsTheFunction(t *testing.T) {
	d := &dice{seed: 92}
	codes := map[int64]int{}
	ran := 0
	for _, f := range emitFuncs(400) {
		for _, c := range trialsOf(alone(f), d) {
			if runsAsEmitted(t, f, c.args, c.mem) {
				ran++
				codes[c.run(impl.MaxFuel).Code]++
			}
		}
	}
	if ran < 2000 {
		t.Error(ran)
	}
	for _, code := range []int64{impl.RsDone, impl.RsZero, impl.RsBounds, impl.RsTrap, impl.RsFull} {
		if codes[code] < 20 {
			t.Error(code, codes)
		}
	}
}

// So does what is emitted when the passes were there first.
func TestWhatIsEmittedBehindPasses(t *testing.T) {
	d := &dice{seed: 93}
	ran := 0
	for _, f := range emitFuncs(60) {
		m := alone(f)
		for _, p := range []pass{impl.Propagated, impl.Folded, impl.Shared, impl.CopiesGone, impl.Cleaned, impl.Pruned, impl.Joined, impl.Split} {
			if next, ok := p(m); ok {
				m = next
			}
		}
		for _, c := range trialsOf(m, d) {
			was := impl.Invoked(alone(f), 0, c.args, c.mem, impl.MaxFuel)
			if runsAsEmitted(t, m.Funcs[0], c.args, c.mem) && was.Code != impl.RsFuel {
				p, _ := impl.Emitted(m.Funcs[0])
				if is := impl.MachineRun(p, c.args, c.mem, 10*impl.MaxFuel); !sameResult(impl.Seen(was), impl.Seen(is)) {
					t.Fatal(impl.ModuleText(alone(f)), programText(p), was, is)
				}
				ran++
			}
		}
	}
	if ran < 300 {
		t.Error(ran)
	}
}

func TestEmittedRunsByHand(t *testing.T) {
	for n := int64(0); n < 9; n++ {
		f := readFunc(t, swapText())
		if !runsAsEmitted(t, f, []int64{7, 9, n}, noughts()) {
			t.Error(n)
		}
		p, _ := impl.Emitted(f)
		r := impl.MachineRun(p, []int64{7, 9, n}, noughts(), 500)
		if want := []int64{7, 9, 7}[n%2 : n%2+2]; !sameList(r.Out, want) || r.Value != want[0] {
			t.Error(n, r)
		}
	}
	// Three in a ring, either way round, and one that stays.
	for _, phis := range []string{"phi 8 0 4\nphi 8 1 5\nphi 8 2 3\n", "phi 8 0 5\nphi 8 1 3\nphi 8 2 4\n", "phi 8 0 3\nphi 8 1 3\nphi 8 2 4\n"} {
		f := readFunc(t, "func 8 8 8 8\nblock\njump 1\nblock\n"+phis+"print 0 3\nprint 0 4\nprint 0 5\njump 1\n")
		if !runsAsEmitted(t, f, []int64{1, 2, 3}, noughts()) {
			t.Error(phis)
		}
	}
	for _, v := range []int64{0, 1, 4, 22, 23, 200} {
		p, _ := impl.Emitted(readFunc(t, sumText()))
		// Two constants, and an edge of five with each way to the loop.
		want := done(v*(v+1)/2%256, 2+5+v*(1+1+1+2+5)+1+1+1+1)
		if r := impl.MachineRun(p, []int64{v}, noughts(), 10*impl.MaxFuel); !sameResult(r, want) {
			t.Error(v, r, want)
		}
	}
}

func TestProgramBytesByHand(t *testing.T) {
	for _, c := range []struct {
		p impl.Program
		s string
	}{
		{impl.Program{Regs: 1, Code: []impl.MIns{{Op: impl.MvTrap}}}, "REG1\x01\x00\x00\x01\x22\x00\x00\x00\x00\x00\x00"},
		{impl.Program{Regs: impl.MaxRegs, Params: []int64{129, 0}, Widths: []int64{32, 1}, Code: []impl.MIns{
			{Op: impl.OpConst, W: 32, D: 128, Imm: impl.MaxConst},
			{Op: impl.OpSelect, W: 16, D: 1, A: 2, B: 3, C: 129},
			{Op: impl.MvRet, W: 8, A: 127},
		}}, "REG1\x82\x01\x02\x81\x01\x00\x02\x20\x01\x03" +
			"\x15\x20\x80\x01\x00\x00\x00\xff\xff\xff\xff\x0f" +
			"\x16\x10\x01\x02\x03\x81\x01\x00" +
			"\x21\x08\x00\x7f\x00\x00\x00"},
	} {
		if s := impl.ProgramBytes(c.p); s != c.s {
			t.Errorf("%q, not %q", s, c.s)
		}
		if p, ok := impl.ReadProgram(c.s); !ok || !sameProgram(p, c.p) {
			t.Error(programText(p), ok)
		}
	}
}

// comesBackAsProgram asks that a right program comes back from its bytes.
func comesBackAsProgram(t *testing.T, p impl.Program) {
	t.Helper()
	s := impl.ProgramBytes(p)
	if s != refProgramBytes(p) {
		t.Fatalf("%q %q", programText(p), s)
	}
	back, ok := impl.ReadProgram(s)
	if !ok || !sameProgram(back, p) || impl.ProgramBytes(back) != s || shareMemory(p, back) {
		t.Fatal(programText(p), ok, programText(back))
	}
}

// isNoProgramsBytes asks of bytes that they are read as nothing.
func isNoProgramsBytes(t *testing.T, s string) {
	t.Helper()
	if p, ok := impl.ReadProgram(s); ok || !isNoProgram(p) {
		t.Errorf("%.80q %s", s, programText(p))
	}
}

// longest has as many bytes as a right program may have.
func longest() impl.Program {
	p := impl.Program{Regs: impl.MaxRegs, Params: slices.Repeat([]int64{129}, impl.MaxParams), Widths: slices.Repeat([]int64{32}, impl.MaxParams)}
	for k := range impl.MaxCode - 1 {
		p.Code = append(p.Code, impl.MIns{Op: impl.OpSelect, W: 32, D: 129, A: 129, B: 129, C: 129})
		if k%2 == 1 {
			p.Code[k] = impl.MIns{Op: impl.OpConst, W: 32, D: 129, Imm: impl.MaxConst}
		}
	}
	p.Code = append(p.Code, impl.MIns{Op: impl.MvJump, Imm: impl.MaxCode - 1})
	return p
}

func TestProgramsComeBackFromBytes(t *testing.T) {
	d := &dice{seed: 94}
	for seed := range uint64(300) {
		p := madeProgram(seed)
		comesBackAsProgram(t, p)
		x := disturbedProgram(p, d)
		if impl.ProgramOk(x) {
			comesBackAsProgram(t, x)
		} else if s := impl.ProgramBytes(x); s != "" {
			t.Fatalf("%q %q", programText(x), s)
		}
	}
	for _, f := range emitFuncs(40) {
		p, _ := impl.Emitted(f)
		comesBackAsProgram(t, p)
	}
	for _, op := range machineOps() {
		for _, regs := range []int64{1, 2, impl.MaxRegs} {
			comesBackAsProgram(t, holdingMIns(rightMIns(op, regs), regs))
		}
	}
	comesBackAsProgram(t, longest())
	if n := len(impl.ProgramBytes(longest())); n < 6000 || n > 20000 {
		t.Error(n)
	}
	for _, n := range numberBorders() {
		comesBackAsProgram(t, holdingMIns(impl.MIns{Op: impl.OpConst, W: 32, Imm: n}, 1))
	}
}

// What is not right is not read either, though its bytes are well written.
func TestBytesOfProgramsThatAreNotRight(t *testing.T) {
	trap := impl.MIns{Op: impl.MvTrap}
	for _, p := range []impl.Program{
		{},
		{Regs: 1},
		{Code: []impl.MIns{trap}},
		{Regs: impl.MaxRegs + 1, Code: []impl.MIns{trap}},
		{Regs: 1, Params: []int64{1}, Widths: []int64{8}, Code: []impl.MIns{trap}},
		{Regs: 1, Params: []int64{0}, Code: []impl.MIns{trap}},
		{Regs: 1, Widths: []int64{8}, Code: []impl.MIns{trap}},
		{Regs: 1, Params: []int64{0}, Widths: []int64{9}, Code: []impl.MIns{trap}},
		{Regs: 1, Params: make([]int64, 5), Widths: []int64{8, 8, 8, 8, 8}, Code: []impl.MIns{trap}},
		{Regs: 1, Code: slices.Repeat([]impl.MIns{trap}, impl.MaxCode+1)},
		{Regs: 1, Code: []impl.MIns{{Op: impl.OpPrint}}},
		{Regs: 1, Code: []impl.MIns{{Op: impl.OpCopy, W: 8}, trap}},
		{Regs: 1, Code: []impl.MIns{{Op: impl.OpConst, W: 8, Imm: 256}, trap}},
		{Regs: 1, Code: []impl.MIns{{Op: impl.MvJump, Imm: 2}, trap}},
		{Regs: 1, Code: []impl.MIns{{Op: impl.MvTrap, W: 8}}},
	} {
		if s := impl.ProgramBytes(p); s != "" {
			t.Errorf("%q %q", programText(p), s)
		}
		isNoProgramsBytes(t, refProgramBytes(p))
	}
	comesBackAsProgram(t, impl.Program{Regs: 1, Code: slices.Repeat([]impl.MIns{trap}, impl.MaxCode)})
}

func TestBytesOfProgramsCutAndLonger(t *testing.T) {
	p, _ := impl.Emitted(readFunc(t, sumText()))
	for _, p := range []impl.Program{p, holdingMIns(impl.MIns{Op: impl.OpConst, W: 32, Imm: impl.MaxConst}, 1), madeProgram(3)} {
		s := impl.ProgramBytes(p)
		for at := range len(s) {
			isNoProgramsBytes(t, s[:at])
			isNoProgramsBytes(t, s[at+1:])
		}
		for _, more := range []string{"\x00", "\x01", "\x80", "\xff", "\n", "\x22\x00\x00\x00\x00\x00\x00", s} {
			isNoProgramsBytes(t, s+more)
			isNoProgramsBytes(t, more+s)
		}
		for _, head := range []string{"", "REG", "REG2", "REG0", "reg1", "SSA1", "1GER", " REG1", "REG1 ", "REG11", "REG1REG1", "\x00EG1"} {
			isNoProgramsBytes(t, head+s[4:])
		}
	}
	for _, s := range []string{"", "R", "REG1", "REG1\x01", "REG1\x01\x00\x00", "REG1\x01\x00\x00\x00", "REG1\x01\x00\x00\x01", "REG1\x01\x00\x00\x01\x22"} {
		isNoProgramsBytes(t, s)
	}
}

// Numbers with more bytes than they need, ones that are too great, and counts
// of what is not there.
func TestBytesOfProgramsWithStrangeNumbers(t *testing.T) {
	plain := "REG1\x01\x01\x00\x01\x08\x02\x19\x00\x00\x00\x00\x00\x00\x22\x00\x00\x00\x00\x00\x00"
	if _, ok := impl.ReadProgram(plain); !ok {
		t.Fatal("plain")
	}
	for at := 4; at < len(plain); at++ {
		for _, n := range []string{"\x80", "\x80\x00", plain[at:at+1] + "\x00", string([]byte{plain[at] | 128, 0}), string([]byte{plain[at] | 128, 128, 0}), "\xff\xff\xff\xff\x0f", "\xff\xff\xff\xff\x10", "\xff\xff\xff\xff\x7f", "\x80\x80\x80\x80\x80\x01", "\x80\x80\x80\x80\x10", "\x80\x80\x80\x80\x01"} {
			isNoProgramsBytes(t, plain[:at]+n+plain[at+1:])
		}
	}
}

// One number is another one, gone or there twice.
func TestBytesOfProgramsNumberByNumber(t *testing.T) {
	d := &dice{seed: 95}
	read := 0
	odd := []int64{0, 1, 2, 3, 4, 5, 8, 16, 21, 26, 27, 31, 32, 33, 34, 35, 36, 129, 130, 131, 255, 300, 600, impl.MaxConst, impl.MaxConst + 1}
	for seed := range uint64(100) {
		numbers := refProgramNumbers(madeProgram(seed))
		for range 60 {
			s := programOfNumbers(oneOff(numbers, odd, d))
			want, is := refReadProgram(s)
			got, ok := impl.ReadProgram(s)
			if ok != is || !sameProgram(got, want) {
				t.Fatalf("%q %v %v", s, ok, is)
			}
			read += int(bit(ok))
		}
	}
	if read < 200 {
		t.Error(read)
	}
}

// No right program has bytes near the limit of what is read; what is read ends
// well.
func TestLongBytesOfPrograms(t *testing.T) {
	full := impl.ProgramBytes(longest())
	for _, fill := range []string{"\x00", "\x01", "\x7f", "\x80", "\xff", "\xff\xff\xff\xff\x0f", "\x22\x00\x00\x00\x00\x00\x00"} {
		for _, size := range []int{19999, 20000, 20001, 300000} {
			for _, head := range []string{"", "REG1", "REG1\x01\x00\x00", "REG1\x01\x00\x00\xff\xff\xff\xff\x0f", "REG1\x01\xff\xff\xff\xff\x0f", full} {
				n := size - len(head)
				isNoProgramsBytes(t, head+strings.Repeat(fill, n/len(fill)+1)[:n])
			}
		}
	}
}

func TestProgramsWriteNothing(t *testing.T) {
	for seed := range uint64(60) {
		p := madeProgram(seed)
		p.Params, p.Widths = roomyList(p.Params), roomyList(p.Widths)
		p.Code = append(make([]impl.MIns, 0, 40), p.Code...)
		was := copyProgram(p)
		if impl.ProgramOk(p) != impl.ProgramOk(p) || impl.ProgramBytes(p) != impl.ProgramBytes(p) {
			t.Fatal(seed)
		}
		a, _ := impl.ReadProgram(impl.ProgramBytes(p))
		b, _ := impl.ReadProgram(impl.ProgramBytes(p))
		if !sameProgram(a, b) || shareMemory(a, b, p) || !sameProgram(p, was) {
			t.Fatal(seed, programText(a), programText(b))
		}
		if spare := p.Code[:cap(p.Code)][len(p.Code):]; spare[0] != (impl.MIns{}) {
			t.Fatal(seed, "written into an argument")
		}
	}
	for seed := range uint64(40) {
		for _, f := range busyModule(seed).Funcs {
			m := roomy(alone(uncalled(f)))
			a, ok := impl.Emitted(m.Funcs[0])
			b, again := impl.Emitted(m.Funcs[0])
			if !ok || !again || !sameProgram(a, b) || shareMemory(m, a, b) {
				t.Fatal(seed, programText(a), programText(b))
			}
			if !reflect.DeepEqual(allOf(m), allOf(roomy(alone(uncalled(f))))) {
				t.Fatal(seed, "written into an argument")
			}
		}
	}
}
