package tests

import (
	"math"
	"reflect"
	"testing"

	"loop.example/g00457/impl"
)

func retOf(a int64) impl.Term { return impl.Term{Kind: impl.TmRet, A: a} }

func branchOf(a int64, x int64, y int64) impl.Term {
	return impl.Term{Kind: impl.TmBranch, A: a, X: x, Y: y}
}

// calledModule has a loop, a block that is not reached and leads into it, and
// a call in each of two functions.
func calledModule() impl.Module {
	return impl.Module{Funcs: []impl.Func{
		{Params: []int64{8, 32}, Ret: 8, Blocks: []impl.Block{
			{Insts: []impl.Inst{{Op: impl.OpConst, W: 8, Imm: 1}}, Term: jumpTo(1)}, // 2
			{Phis: []impl.Phi{{W: 8, Ins: []int64{2, 5, 8}}}, // 3
				Insts: []impl.Inst{
					{Op: impl.OpULt, W: 8, A: 3, B: 0}, // 4
					{Op: impl.OpAdd, W: 8, A: 3, B: 2}, // 5
				}, Term: branchOf(4, 2, 3)},
			{Insts: []impl.Inst{{Op: impl.OpStore, A: 1, B: 5}}, Term: jumpTo(1)},                               // 6
			{Insts: []impl.Inst{{Op: impl.OpCall, W: 16, Imm: 1, Args: []int64{4, 3}}}, Term: retOf(5)},         // 7
			{Insts: []impl.Inst{{Op: impl.OpCopy, W: 8, A: 9}, {Op: impl.OpLoad, W: 8, A: 1}}, Term: jumpTo(1)}, // 8, 9
		}},
		{Params: []int64{1, 8}, Ret: 16, Blocks: []impl.Block{
			{Insts: []impl.Inst{
				{Op: impl.OpConst, W: 32, Imm: 7},                    // 2
				{Op: impl.OpCall, W: 8, Imm: 0, Args: []int64{1, 2}}, // 3
				{Op: impl.OpZext, W: 16, A: 3},                       // 4
			}, Term: retOf(4)},
		}},
	}}
}

// A fault makes the first function of calledModule fail by its code alone.
type fault struct {
	name  string
	code  int64
	spoil func(f *impl.Func)
}

func faults() []fault {
	return []fault{
		{"a width that is none", impl.VfShape, func(f *impl.Func) { f.Ret = 9 }},
		{"an end that leads nowhere", impl.VfShape, func(f *impl.Func) { f.Blocks[4].Term.X = 5 }},
		{"a phi in the first block", impl.VfEntry, func(f *impl.Func) {
			f.Blocks[0].Phis, f.Blocks[0].Insts = []impl.Phi{{W: 8}}, nil
		}},
		{"a block that is not reached leads to the first", impl.VfEntry, func(f *impl.Func) {
			f.Blocks[4].Term.X, f.Blocks[1].Phis[0].Ins = 0, []int64{2, 5}
		}},
		{"too few come in", impl.VfPhi, func(f *impl.Func) { f.Blocks[1].Phis[0].Ins = []int64{2, 5} }},
		{"too many come in", impl.VfPhi, func(f *impl.Func) { f.Blocks[1].Phis[0].Ins = []int64{2, 5, 8, 8} }},
		{"none comes in", impl.VfPhi, func(f *impl.Func) { f.Blocks[1].Phis[0].Ins = nil }},
		{"one of another width comes in", impl.VfType, func(f *impl.Func) { f.Blocks[1].Phis[0].Ins[0] = 1 }},
		{"one of another width comes in from a block that is not reached", impl.VfType, func(f *impl.Func) { f.Blocks[1].Phis[0].Ins[2] = 4 }},
		{"another width where it is not reached", impl.VfType, func(f *impl.Func) { f.Blocks[4].Insts[0].W = 16 }},
		{"another width is given", impl.VfType, func(f *impl.Func) { f.Blocks[3].Term.A = 1 }},
		{"another width is asked", impl.VfType, func(f *impl.Func) { f.Blocks[1].Term.A = 5 }},
		{"a call of another width", impl.VfCall, func(f *impl.Func) { f.Blocks[3].Insts[0].W = 32 }},
		{"an arg too few", impl.VfCall, func(f *impl.Func) { f.Blocks[3].Insts[0].Args = []int64{4} }},
		{"an arg too many", impl.VfCall, func(f *impl.Func) { f.Blocks[3].Insts[0].Args = []int64{4, 3, 3} }},
		{"an arg of another width", impl.VfCall, func(f *impl.Func) { f.Blocks[3].Insts[0].Args = []int64{4, 4} }},
		{"an arg that gives nothing", impl.VfCall, func(f *impl.Func) { f.Blocks[3].Insts[0].Args = []int64{4, 6} }},
		{"another one is called", impl.VfCall, func(f *impl.Func) { f.Blocks[3].Insts[0].Imm = 0 }},
		{"itself is named", impl.VfDom, func(f *impl.Func) { f.Blocks[1].Insts[1].A = 5 }},
		{"the next one is named", impl.VfDom, func(f *impl.Func) { f.Blocks[1].Insts[0].B = 5 }},
		{"one that is not reached is named", impl.VfDom, func(f *impl.Func) { f.Blocks[2].Insts[0].B = 8 }},
		{"one that is not reached is given", impl.VfDom, func(f *impl.Func) { f.Blocks[3].Term.A = 9 }},
		{"one that is not reached comes in", impl.VfDom, func(f *impl.Func) { f.Blocks[1].Phis[0].Ins[1] = 8 }},
		{"one that is not there yet comes in", impl.VfDom, func(f *impl.Func) { f.Blocks[1].Phis[0].Ins[0] = 3 }},
	}
}

func TestEachRefusal(t *testing.T) {
	if c := impl.Checked(calledModule()); c != impl.VfOk {
		t.Fatal(c)
	}
	for _, x := range faults() {
		m := calledModule()
		x.spoil(&m.Funcs[0])
		if c := impl.FuncChecked(m, 0); c != x.code {
			t.Error(x.name, c)
		}
		if c := impl.Checked(m); c != x.code {
			t.Error(x.name, "in all", c)
		}
	}
}

// Of two faults the lesser code is told, wherever they stand.
func TestWhichRefusalComesFirst(t *testing.T) {
	var pairs [7][7]int
	for _, x := range faults() {
		for _, y := range faults() {
			if x.code >= y.code {
				continue
			}
			m := calledModule()
			y.spoil(&m.Funcs[0])
			if c := impl.FuncChecked(m, 0); c != y.code {
				t.Error(y.name, c)
			}
			x.spoil(&m.Funcs[0])
			if c := impl.FuncChecked(m, 0); c != x.code {
				t.Error(x.name, "and", y.name, c)
			}
			if x.code == impl.VfShape || refWrong(m, m.Funcs[0])[y.code] {
				pairs[x.code][y.code]++
			}
		}
	}
	for x := impl.VfShape; x <= impl.VfDom; x++ {
		for y := x + 1; y <= impl.VfDom; y++ {
			if pairs[x][y] == 0 {
				t.Error("no module fails by both", x, y)
			}
		}
	}
}

// The lesser code stands in the last block, the other one in the first.
func TestRefusalsAreOverAllOfIt(t *testing.T) {
	wide := impl.Inst{Op: impl.OpAdd, W: 16, A: 2, B: 2}
	call := impl.Inst{Op: impl.OpCall, W: 8}
	late := impl.Inst{Op: impl.OpCopy, W: 8, A: 2}
	plain := impl.Inst{Op: impl.OpConst, W: 8}
	for _, r := range []struct {
		first, last impl.Inst
		end         impl.Term
		ins         []int64
		want        int64
	}{
		{plain, plain, trapEnd(), []int64{0}, impl.VfOk},
		{late, plain, trapEnd(), []int64{0}, impl.VfDom},
		{late, call, trapEnd(), []int64{0}, impl.VfCall},
		{late, wide, trapEnd(), []int64{0}, impl.VfType},
		{call, wide, trapEnd(), []int64{0}, impl.VfType},
		{wide, plain, trapEnd(), nil, impl.VfPhi},
		{call, plain, trapEnd(), nil, impl.VfPhi},
		{late, plain, trapEnd(), nil, impl.VfPhi},
		{wide, plain, jumpTo(0), []int64{0}, impl.VfEntry},
		{late, plain, jumpTo(0), nil, impl.VfEntry},
	} {
		m := alone(impl.Func{Params: []int64{8}, Ret: 8, Blocks: []impl.Block{
			{Insts: []impl.Inst{r.first}, Term: jumpTo(1)},
			{Phis: []impl.Phi{{W: 8, Ins: r.ins}}, Insts: []impl.Inst{r.last}, Term: r.end},
		}})
		if c := impl.FuncChecked(m, 0); c != r.want {
			t.Error(r, c)
		}
	}
}

// eachNamed goes through all ids that are named.
func eachNamed(f *impl.Func, do func(id *int64)) {
	for b := range f.Blocks {
		block := &f.Blocks[b]
		for p := range block.Phis {
			for at := range block.Phis[p].Ins {
				do(&block.Phis[p].Ins[at])
			}
		}
		for at := range block.Insts {
			i := &block.Insts[at]
			fields := []*int64{&i.A, &i.B, &i.C}
			if i.Op == impl.OpCall {
				fields = nil
				for a := range i.Args {
					fields = append(fields, &i.Args[a])
				}
			}
			for _, x := range fields[:len(impl.OperandsOf(*i))] {
				do(x)
			}
		}
		if block.Term.Kind == impl.TmRet || block.Term.Kind == impl.TmBranch {
			do(&block.Term.A)
		}
	}
}

func TestFunctionByFunction(t *testing.T) {
	late := func() impl.Module {
		m := calledModule()
		m.Funcs[0].Blocks[3].Term.A = 9
		m.Funcs[1].Blocks[0].Insts[2].W = 8
		return m
	}
	m := late()
	if a, b, c := impl.FuncChecked(m, 0), impl.FuncChecked(m, 1), impl.Checked(m); a != impl.VfDom || b != impl.VfType || c != impl.VfDom {
		t.Error(a, b, c)
	}
	m.Funcs[0] = calledModule().Funcs[0]
	if a, c := impl.FuncChecked(m, 0), impl.Checked(m); a != impl.VfOk || c != impl.VfType {
		t.Error(a, c)
	}
	m = late()
	m.Funcs[1].Ret = 9
	if a, b, c := impl.FuncChecked(m, 0), impl.FuncChecked(m, 1), impl.Checked(m); a != impl.VfShape || b != impl.VfShape || c != impl.VfShape {
		t.Error(a, b, c)
	}
	// What is called is asked for its head alone.
	m = calledModule()
	m.Funcs[1].Blocks[0].Term.A = 0
	if a, b := impl.FuncChecked(m, 0), impl.FuncChecked(m, 1); a != impl.VfOk || b != impl.VfType {
		t.Error(a, b)
	}
	third := repeated(counted(1), impl.MaxFuncs)
	third.Funcs[2].Blocks[0].Phis = []impl.Phi{{W: 8}}
	if impl.Checked(third) != impl.VfEntry || impl.FuncChecked(third, 2) != impl.VfEntry || impl.FuncChecked(third, 1) != impl.VfOk {
		t.Error(impl.Checked(third))
	}
}

func TestNoSuchFunction(t *testing.T) {
	for _, k := range []int64{math.MinInt64, -1, 2, 3, math.MaxInt64} {
		if c := impl.FuncChecked(calledModule(), k); c != impl.VfShape {
			t.Error(k, c)
		}
	}
	for _, k := range []int64{-1, 0, 1} {
		if c := impl.FuncChecked(impl.Module{}, k); c != impl.VfShape {
			t.Error(k, c)
		}
	}
	// A module without functions has no form.
	if impl.Checked(impl.Module{}) != impl.VfShape || impl.Checked(impl.Module{Funcs: []impl.Func{{}}}) != impl.VfShape {
		t.Error("nothing")
	}
	if c := impl.Checked(repeated(counted(1), impl.MaxFuncs+1)); c != impl.VfShape {
		t.Error(c)
	}
}

// typed has parameters of the four widths (ids 0 .. 3), a store that gives
// nothing (id 5), and that instruction (id 6).
func typed(i impl.Inst) impl.Module {
	return alone(impl.Func{Params: widths(), Ret: 8, Blocks: []impl.Block{{
		Insts: []impl.Inst{{Op: impl.OpConst, W: 8}, {Op: impl.OpStore, A: 3, B: 1}, i},
		Term:  trapEnd(),
	}}})
}

// operandFits says, in the document's words, of one operand of an op.
func operandFits(op int64, w int64, at int, of int64) bool {
	switch {
	case op <= impl.OpSLt || op == impl.OpCopy:
		return of == w
	case op == impl.OpZext || op == impl.OpSext:
		return of != 0 && of < w
	case op == impl.OpTrunc:
		return of > w
	case op == impl.OpSelect:
		return at == 0 && of == 1 || at > 0 && of == w
	case op == impl.OpLoad:
		return of == 32
	case op == impl.OpStore:
		return at == 0 && of == 32 || at == 1 && of == 8
	}
	return of != 0
}

func TestWidthsOfOperands(t *testing.T) {
	ids := []int64{0, 1, 2, 3, 5}
	types := map[int64]int64{0: 1, 1: 8, 2: 16, 3: 32, 5: 0}
	for op := int64(1); op <= impl.OpCopy; op++ {
		if op == impl.OpCall {
			continue
		}
		for _, w := range append(widths(), 0) {
			n := len(impl.OperandsOf(impl.Inst{Op: op}))
			for k := range 125 {
				l := []int64{ids[k%5], ids[k/5%5], ids[k/25]}[:n]
				m := typed(naming(impl.Inst{Op: op, W: w}, l))
				want := int64(impl.VfOk)
				for at, id := range l {
					if !operandFits(op, w, at, types[id]) {
						want = impl.VfType
					}
				}
				if !impl.ShapeOk(m) {
					want = impl.VfShape
				}
				if c := impl.Checked(m); c != want {
					t.Fatal(op, w, l, c, want)
				}
			}
		}
	}
}

func TestWidthsOfEnds(t *testing.T) {
	for id, w := range []int64{1, 8, 16, 32, 8, 0} {
		for _, ret := range widths() {
			m := typed(impl.Inst{Op: impl.OpConst, W: 8})
			m.Funcs[0].Ret = ret
			m.Funcs[0].Blocks[0].Term = retOf(int64(id))
			if ok := impl.Checked(m) == impl.VfOk; ok != (w == ret) {
				t.Error("ret", id, ret)
			}
		}
		m := typed(impl.Inst{Op: impl.OpConst, W: 8})
		m.Funcs[0].Blocks[0].Term = branchOf(int64(id), 1, 2)
		m.Funcs[0].Blocks = append(m.Funcs[0].Blocks, leading(trapEnd(), trapEnd()).Blocks...)
		if ok := impl.Checked(m) == impl.VfOk; ok != (w == 1) {
			t.Error("branch", id)
		}
	}
	// What is compared is of W, what comes of it of one bit.
	m := typed(impl.Inst{Op: impl.OpEq, W: 32, A: 3, B: 3})
	m.Funcs[0].Blocks[0].Term = branchOf(6, 1, 2)
	m.Funcs[0].Blocks = append(m.Funcs[0].Blocks, leading(trapEnd(), trapEnd()).Blocks...)
	if c := impl.Checked(m); c != impl.VfOk {
		t.Error(c)
	}
}

func TestWidthsOfPhis(t *testing.T) {
	for id, w := range []int64{1, 8, 16, 32, 8, 0} {
		for _, want := range widths() {
			m := typed(impl.Inst{Op: impl.OpConst, W: 8})
			m.Funcs[0].Blocks[0].Term = jumpTo(1)
			m.Funcs[0].Blocks = append(m.Funcs[0].Blocks, impl.Block{Phis: []impl.Phi{{W: want, Ins: []int64{int64(id)}}}, Term: trapEnd()})
			if ok := impl.Checked(m) == impl.VfOk; ok != (w == want) {
				t.Error(id, want)
			}
		}
	}
}

// sightModule: 0 leads to 1 and 2, these to 3, that to itself and 4; 5 is not
// reached and leads to 3 and 5. Each block has a phi but the first one, and an
// instruction: the ids 1 .. 11 are of block 0 (1), 1 (2, 3), 2 (4, 5), 3 (6, 7),
// 4 (8, 9) and 5 (10, 11).
func sightModule() impl.Module {
	c := impl.Inst{Op: impl.OpConst, W: 1, Imm: 1}
	block := func(e impl.Term, ins ...int64) impl.Block {
		return impl.Block{Phis: []impl.Phi{{W: 1, Ins: ins}}, Insts: []impl.Inst{c}, Term: e}
	}
	return alone(impl.Func{Params: []int64{1}, Ret: 1, Blocks: []impl.Block{
		{Insts: []impl.Inst{c}, Term: branchOf(0, 1, 2)},
		block(jumpTo(3), 0),
		block(jumpTo(3), 0),
		block(branchOf(0, 3, 4), 0, 0, 0, 0),
		block(trapEnd(), 0),
		block(branchOf(0, 3, 5), 0),
	}})
}

// The ids that are seen at the end of each block of sightModule.
func sightEnds() [][]int64 {
	all := []int64{0, 1, 2, 3, 4, 5, 6, 7, 8, 9, 10, 11}
	return [][]int64{{0, 1}, {0, 1, 2, 3}, {0, 1, 4, 5}, {0, 1, 6, 7}, {0, 1, 6, 7, 8, 9}, all}
}

func seenCode(ok bool) int64 {
	if ok {
		return impl.VfOk
	}
	return impl.VfDom
}

func TestWhatIsSeen(t *testing.T) {
	for id := int64(0); id <= 11; id++ {
		for b, end := range sightEnds() {
			m := sightModule()
			m.Funcs[0].Blocks[b].Insts[0] = impl.Inst{Op: impl.OpCopy, W: 1, A: id}
			self := int64(2*b + 1)
			if c := impl.Checked(m); c != seenCode(b == 5 || has(end, id) && id != self) {
				t.Error("instruction", b, id, c)
			}
			m = sightModule()
			e := &m.Funcs[0].Blocks[b].Term
			switch e.Kind {
			case impl.TmBranch:
				e.A = id
			case impl.TmTrap:
				*e = retOf(id)
			default:
				continue
			}
			if c := impl.Checked(m); c != seenCode(has(end, id)) {
				t.Error("end", b, id, c)
			}
		}
	}
}

// fitPhis gives a block's phis as many Ins as there are blocks that lead to it.
func fitPhis(f *impl.Func, b int64) {
	for p := range f.Blocks[b].Phis {
		f.Blocks[b].Phis[p].Ins = make([]int64, len(impl.PredsOf(*f, b)))
	}
}

func TestWhatComesIn(t *testing.T) {
	ends := sightEnds()
	for to, preds := range [][]int64{{}, {0}, {0}, {1, 2, 3, 5}, {3}, {5}} {
		for at, from := range preds {
			for id := int64(0); id <= 11; id++ {
				m := sightModule()
				m.Funcs[0].Blocks[to].Phis[0].Ins[at] = id
				if c := impl.Checked(m); c != seenCode(has(ends[from], id)) {
					t.Error(to, from, id, c)
				}
			}
		}
	}
}

// refCode asks all checks ahead of telling.
func refCode(m impl.Module, k int64) int64 {
	if !impl.ShapeOk(m) {
		return impl.VfShape
	}
	for code, is := range refWrong(m, m.Funcs[k]) {
		if is {
			return int64(code)
		}
	}
	return impl.VfOk
}

// refWrong has, by its code, whether something is wrong; what is seen it goes
// through as lists.
func refWrong(m impl.Module, f impl.Func) [7]bool {
	d := refDrawing(f)
	bad := [7]bool{}
	if len(f.Blocks[0].Phis) > 0 || len(d.preds[0]) > 0 {
		bad[impl.VfEntry] = true
	}
	unseen := func(id int64, b int64, at int) {
		if has(d.reached, b) && !has(refSeen(f, d, b, at), id) {
			bad[impl.VfDom] = true
		}
	}
	end := func(b int64) int { return len(f.Blocks[b].Phis) + len(f.Blocks[b].Insts) }
	for k, block := range f.Blocks {
		b := int64(k)
		for _, p := range block.Phis {
			if len(p.Ins) != len(d.preds[b]) {
				bad[impl.VfPhi] = true
			}
			for at, id := range p.Ins {
				if impl.TypeOf(f, id) != p.W {
					bad[impl.VfType] = true
				}
				if at < len(d.preds[b]) {
					unseen(id, d.preds[b][at], end(d.preds[b][at]))
				}
			}
		}
		for at, i := range block.Insts {
			for o, id := range impl.OperandsOf(i) {
				if i.Op != impl.OpCall && !operandFits(i.Op, i.W, o, impl.TypeOf(f, id)) {
					bad[impl.VfType] = true
				}
				unseen(id, b, len(block.Phis)+at)
			}
			if i.Op == impl.OpCall && !refCallFits(m, f, i) {
				bad[impl.VfCall] = true
			}
		}
		switch e := block.Term; e.Kind {
		case impl.TmRet, impl.TmBranch:
			if e.Kind == impl.TmRet && impl.TypeOf(f, e.A) != f.Ret || e.Kind == impl.TmBranch && impl.TypeOf(f, e.A) != 1 {
				bad[impl.VfType] = true
			}
			unseen(e.A, b, end(b))
		}
	}
	return bad
}

func refCallFits(m impl.Module, f impl.Func, i impl.Inst) bool {
	var types []int64
	for _, id := range i.Args {
		types = append(types, impl.TypeOf(f, id))
	}
	return i.W == m.Funcs[i.Imm].Ret && sameList(types, m.Funcs[i.Imm].Params)
}

func refSeen(f impl.Func, d drawing, b int64, upTo int) []int64 {
	var l []int64
	id := int64(0)
	for range f.Params {
		l = append(l, id)
		id++
	}
	for a, block := range f.Blocks {
		for at := range len(block.Phis) + len(block.Insts) {
			if int64(a) == b && at < upTo || int64(a) != b && has(d.doms[b], int64(a)) {
				l = append(l, id)
			}
			id++
		}
	}
	return l
}

func TestMadeModulesAreRight(t *testing.T) {
	unreached, loops := 0, 0
	for seed := range uint64(400) {
		m := madeModule(seed)
		if c := impl.Checked(m); c != impl.VfOk {
			t.Fatal(seed, c, m)
		}
		for k, f := range m.Funcs {
			if impl.FuncChecked(m, int64(k)) != impl.VfOk {
				t.Fatal(seed, k)
			}
			if len(impl.Reached(f)) < len(f.Blocks) {
				unreached++
			}
			for b := range f.Blocks {
				for _, to := range impl.SuccsOf(f, int64(b)) {
					if impl.Dominates(f, to, int64(b)) {
						loops++
					}
				}
			}
		}
	}
	if unreached < 50 || loops < 50 {
		t.Error(unreached, loops)
	}
}

// disturbed changes one or two fields anywhere.
func disturbed(m impl.Module, d *dice) impl.Module {
	m = copyModule(m)
	for range 1 + d.below(2) {
		f := &m.Funcs[d.below(int64(len(m.Funcs)))]
		block := &f.Blocks[d.below(int64(len(f.Blocks)))]
		n := impl.CountOf(*f)
		switch d.below(9) {
		case 0:
			f.Ret = d.oneOf(widths())
		case 1:
			ends := endsOf(int64(len(f.Blocks)))
			block.Term = ends[d.below(int64(len(ends)))]
		case 2:
			block.Term.A = d.below(n + 1)
		case 3:
			block.Phis = append(block.Phis, impl.Phi{W: d.oneOf(widths())})
			fitPhis(f, d.below(int64(len(f.Blocks))))
		case 4:
			if len(f.Params) > 0 {
				f.Params[d.below(int64(len(f.Params)))] = d.oneOf(widths())
			}
		default:
			var all []*int64
			eachNamed(f, func(id *int64) { all = append(all, id) })
			if len(all) > 0 {
				*all[d.below(int64(len(all)))] = d.below(n)
			}
		}
	}
	return m
}

func TestChecksAgainstOtherWays(t *testing.T) {
	d := &dice{seed: 11}
	var told [7]int
	for seed := range uint64(300) {
		m := madeModule(seed)
		for range 20 {
			x := disturbed(m, d)
			first := int64(impl.VfOk)
			for k := range x.Funcs {
				want := refCode(x, int64(k))
				if c := impl.FuncChecked(x, int64(k)); c != want {
					t.Fatal(seed, k, c, want, x)
				}
				if first == impl.VfOk {
					first = want
				}
			}
			if c := impl.Checked(x); c != first {
				t.Fatal(seed, c, first, x)
			}
			told[first]++
		}
	}
	for code, n := range told {
		if n < 20 {
			t.Error("seldom told", code, n, told)
		}
	}
}

func TestWhatIsCheckedIsInItsForm(t *testing.T) {
	d := &dice{seed: 5}
	for seed := range uint64(200) {
		x := disturbed(madeModule(seed), d)
		if impl.Checked(x) == impl.VfOk && !impl.ShapeOk(x) {
			t.Fatal(seed)
		}
	}
}

func TestUses(t *testing.T) {
	f := calledModule().Funcs[0]
	for id, want := range []int64{1, 2, 2, 3, 2, 3, 0, 0, 1, 1} {
		if n := impl.Uses(f, int64(id)); n != want {
			t.Error(id, n, want)
		}
	}
	for _, id := range []int64{math.MinInt64, -1, 10, math.MaxInt64} {
		if n := impl.Uses(f, id); n != 0 {
			t.Error(id, n)
		}
	}
	twice := impl.Func{Blocks: []impl.Block{{
		Phis:  []impl.Phi{{Ins: []int64{4, 4, 4}}, {Ins: []int64{4}}},
		Insts: []impl.Inst{{Op: impl.OpAdd, A: 4, B: 4}, {Op: impl.OpSelect, A: 4, B: 4, C: 4}, {Op: impl.OpCall, A: 4, Args: []int64{4, 5, 4}}, {Op: impl.OpConst, A: 4, Imm: 4}, {Op: impl.OpPrint, A: 5, B: 4, C: 4}},
		Term:  branchOf(4, 4, 4),
	}, {Term: retOf(4)}}}
	if n := impl.Uses(twice, 4); n != 13 {
		t.Error(n)
	}
	if n := impl.Uses(twice, 5); n != 2 {
		t.Error(n)
	}
}

// Only TmRet and TmBranch name an id; others do not, whatever stands there.
func TestUsesOfEnds(t *testing.T) {
	for _, kind := range []int64{math.MinInt64, -1, 0, 1, 2, 3, 4, 5, math.MaxInt64} {
		want := int64(0)
		if kind == impl.TmRet || kind == impl.TmBranch {
			want = 1
		}
		f := leading(impl.Term{Kind: kind, A: 7, X: 7, Y: 7})
		if n := impl.Uses(f, 7); n != want {
			t.Error(kind, n)
		}
	}
	if impl.Uses(impl.Func{}, 0) != 0 {
		t.Error("nothing")
	}
}

func TestUsesAgainstCounting(t *testing.T) {
	for seed := range uint64(60) {
		for _, f := range madeModule(seed).Funcs {
			g := copyFunc(f)
			times := map[int64]int64{}
			eachNamed(&g, func(id *int64) { times[*id]++ })
			for id := int64(-1); id <= impl.CountOf(f); id++ {
				if n := impl.Uses(f, id); n != times[id] {
					t.Fatal(seed, id, n, times[id])
				}
			}
		}
	}
}

func TestChecksWriteNothing(t *testing.T) {
	d := &dice{seed: 8}
	for seed := range uint64(60) {
		m := disturbed(madeModule(seed), d)
		before := copyModule(m)
		a, b := impl.Checked(m), impl.Checked(m)
		for k := range m.Funcs {
			if impl.FuncChecked(m, int64(k)) != impl.FuncChecked(m, int64(k)) || impl.Uses(m.Funcs[k], 0) != impl.Uses(m.Funcs[k], 0) {
				t.Error(seed, k)
			}
		}
		if a != b || !reflect.DeepEqual(copyModule(m), before) {
			t.Error(seed, a, b)
		}
	}
}
