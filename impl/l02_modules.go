package impl

const (
	TmRet     = 1
	TmJump    = 2
	TmBranch  = 3
	TmTrap    = 4
	MaxFuncs  = 3
	MaxBlocks = 10
	MaxValues = 60
	MaxParams = 4
	MaxConst  = 4294967295
)

type Inst struct {
	Op   int64
	W    int64
	A    int64
	B    int64
	C    int64
	Imm  int64
	Args []int64
}

type Phi struct {
	W   int64
	Ins []int64
}

type Term struct {
	Kind int64
	A    int64
	X    int64
	Y    int64
}

type Block struct {
	Phis  []Phi
	Insts []Inst
	Term  Term
}

type Func struct {
	Params []int64
	Ret    int64
	Blocks []Block
}

type Module struct {
	Funcs []Func
}

func CountOf(f Func) int64 {
	n := len(f.Params)
	for _, b := range f.Blocks {
		n += len(b.Phis) + len(b.Insts)
	}
	return int64(n)
}

func ShapeOk(m Module) bool {
	if len(m.Funcs) < 1 || len(m.Funcs) > MaxFuncs {
		return false
	}
	for _, f := range m.Funcs {
		if !funcShapeOk(f, int64(len(m.Funcs))) {
			return false
		}
	}
	return true
}

func TypeOf(f Func, id int64) int64 {
	b, at := PlaceOf(f, id)
	if b == noBlock {
		return -1
	}
	if b == paramBlock {
		return f.Params[at]
	}
	phis := f.Blocks[b].Phis
	if at < int64(len(phis)) {
		return phis[at].W
	}
	return instType(f.Blocks[b].Insts[at-int64(len(phis))])
}

func PlaceOf(f Func, id int64) (int64, int64) {
	if id < 0 {
		return noBlock, 0
	}
	if id < int64(len(f.Params)) {
		return paramBlock, id
	}
	rest := id - int64(len(f.Params))
	for k, b := range f.Blocks {
		n := int64(len(b.Phis) + len(b.Insts))
		if rest < n {
			return int64(k), rest
		}
		rest -= n
	}
	return noBlock, 0
}

func OperandsOf(i Inst) []int64 {
	return kindOf(i).operands()
}

// What PlaceOf tells in the place of a block.
const (
	paramBlock = -1
	noBlock    = -2
)

// A kind is an instruction as its op sees it: it holds what such a one uses
// and nothing else, so the layers need not know the ops one by one.
type kind interface {
	operands() []int64
}

type binaryKind struct{ a, b int64 }

// A unaryKind is a cast or a copy.
type unaryKind struct{ a int64 }

type constKind struct{ imm int64 }

type selectKind struct{ a, b, c int64 }

type loadKind struct{ a int64 }

type storeKind struct{ a, b int64 }

type printKind struct{ a int64 }

type callKind struct {
	callee int64
	args   []int64
}

// A strangeKind has an op that is none.
type strangeKind struct{}

func (k binaryKind) operands() []int64 { return []int64{k.a, k.b} }

func (k unaryKind) operands() []int64 { return []int64{k.a} }

func (k constKind) operands() []int64 { return nil }

func (k selectKind) operands() []int64 { return []int64{k.a, k.b, k.c} }

func (k loadKind) operands() []int64 { return []int64{k.a} }

func (k storeKind) operands() []int64 { return []int64{k.a, k.b} }

func (k printKind) operands() []int64 { return []int64{k.a} }

// The caller may write into what it is told, so the arguments are copied.
func (k callKind) operands() []int64 { return append([]int64(nil), k.args...) }

func (k strangeKind) operands() []int64 { return nil }

func kindOf(i Inst) kind {
	if isBinary(i.Op) {
		return binaryKind{i.A, i.B}
	}
	switch i.Op {
	case OpZext, OpSext, OpTrunc, OpCopy:
		return unaryKind{i.A}
	case OpConst:
		return constKind{i.Imm}
	case OpSelect:
		return selectKind{i.A, i.B, i.C}
	case OpLoad:
		return loadKind{i.A}
	case OpStore:
		return storeKind{i.A, i.B}
	case OpPrint:
		return printKind{i.A}
	case OpCall:
		return callKind{i.Imm, i.Args}
	}
	return strangeKind{}
}

func instType(i Inst) int64 {
	switch kindOf(i).(type) {
	case binaryKind:
		return ResultWidth(i.Op, i.W)
	default:
		return i.W
	}
}

// room is what the parts of a function may name.
type room struct {
	ids, blocks, funcs int64
}

// funcShapeOk asks whether f could stand in a module of that many functions.
func funcShapeOk(f Func, funcs int64) bool {
	if len(f.Params) > MaxParams || !allWidths(f.Params) || !WidthOk(f.Ret) {
		return false
	}
	if len(f.Blocks) < 1 || len(f.Blocks) > MaxBlocks || CountOf(f) > MaxValues {
		return false
	}
	r := room{CountOf(f), int64(len(f.Blocks)), funcs}
	for _, b := range f.Blocks {
		if !blockShapeOk(b, r) {
			return false
		}
	}
	return true
}

func blockShapeOk(b Block, r room) bool {
	for _, p := range b.Phis {
		if !WidthOk(p.W) || len(p.Ins) > MaxBlocks || !allBelow(p.Ins, r.ids) {
			return false
		}
	}
	for _, i := range b.Insts {
		if !instShapeOk(i, r) {
			return false
		}
	}
	return termShapeOk(b.Term, r)
}

func instShapeOk(i Inst, r room) bool {
	k := kindOf(i)
	return instWidthOk(i, k) && instImmOk(i, k, r) && instFieldsOk(i, k) && allBelow(k.operands(), r.ids)
}

func instWidthOk(i Inst, k kind) bool {
	switch k.(type) {
	case strangeKind:
		return false
	case storeKind, printKind:
		return i.W == 0
	case loadKind:
		return i.W == 8
	default:
		return WidthOk(i.W)
	}
}

func instImmOk(i Inst, k kind, r room) bool {
	switch x := k.(type) {
	case constKind:
		return isValue(i.W, x.imm)
	case callKind:
		return isBelow(x.callee, r.funcs)
	default:
		return i.Imm == 0
	}
}

// instFieldsOk asks for 0 in those of A, B and C that are not named: all kinds
// but calls name them from A on, and calls none.
func instFieldsOk(i Inst, k kind) bool {
	fields := [3]int64{i.A, i.B, i.C}
	named := 0
	switch x := k.(type) {
	case callKind:
		if len(x.args) > MaxParams {
			return false
		}
	default:
		if len(i.Args) > 0 {
			return false
		}
		named = len(k.operands())
	}
	for at := named; at < len(fields); at++ {
		if fields[at] != 0 {
			return false
		}
	}
	return true
}

func termShapeOk(t Term, r room) bool {
	switch t.Kind {
	case TmRet:
		return isBelow(t.A, r.ids) && t.X == 0 && t.Y == 0
	case TmJump:
		return isBelow(t.X, r.blocks) && t.A == 0 && t.Y == 0
	case TmBranch:
		return isBelow(t.A, r.ids) && isBelow(t.X, r.blocks) && isBelow(t.Y, r.blocks) && t.X != t.Y
	case TmTrap:
		return t.A == 0 && t.X == 0 && t.Y == 0
	}
	return false
}

// isBelow asks whether n is a place among that many.
func isBelow(n int64, count int64) bool {
	return n >= 0 && n < count
}

func allBelow(l []int64, count int64) bool {
	for _, n := range l {
		if !isBelow(n, count) {
			return false
		}
	}
	return true
}

func allWidths(l []int64) bool {
	for _, w := range l {
		if !WidthOk(w) {
			return false
		}
	}
	return true
}
