package tests

import "loop.example/g00457/impl"

// A dice gives the same row of numbers for the same seed.
type dice struct{ seed uint64 }

func (d *dice) below(n int64) int64 {
	d.seed = d.seed*6364136223846793005 + 1442695040888963407
	return int64((d.seed >> 33) % uint64(n))
}

func (d *dice) oneOf(l []int64) int64 { return l[d.below(int64(len(l)))] }

// A madeValue is a parameter, a phi or an instruction that has no number yet:
// what it names is made ahead of it or, with phis, behind it.
type madeValue struct {
	id    int64
	w     int64
	inst  impl.Inst
	named []*madeValue
}

type madeBlock struct {
	phis, insts []*madeValue
	term        impl.Term
	asked       *madeValue
}

type maker struct {
	*dice
	m      impl.Module // what is known of it ahead of the blocks: Params and Ret
	f      impl.Func
	params []*madeValue
	blocks []*madeBlock
	draw   drawing
	size   madeSize
}

// A madeSize tells how much there is at most: so many blocks, and less than so
// many instructions made of dice in each of them.
type madeSize struct{ blocks, insts int64 }

// madeModule is a right module, with loops, calls, and blocks that are not
// reached among all others.
func madeModule(seed uint64) impl.Module { return sizedModule(seed, madeSize{7, 6}) }

// wideModule has as many blocks as there may be, and less in each.
func wideModule(seed uint64) impl.Module {
	return sizedModule(seed, madeSize{impl.MaxBlocks, 3})
}

func sizedModule(seed uint64, size madeSize) impl.Module {
	d := &dice{seed: seed}
	d.below(2)
	var heads impl.Module
	for range 1 + d.below(impl.MaxFuncs) {
		f := impl.Func{Ret: d.oneOf(widths())}
		for range d.below(impl.MaxParams + 1) {
			f.Params = append(f.Params, d.oneOf(widths()))
		}
		heads.Funcs = append(heads.Funcs, f)
	}
	var m impl.Module
	for _, f := range heads.Funcs {
		k := &maker{dice: d, m: heads, f: copyFunc(f), size: size}
		m.Funcs = append(m.Funcs, k.made())
	}
	return m
}

func (k *maker) made() impl.Func {
	k.makeEnds(1 + k.below(k.size.blocks))
	for _, w := range k.f.Params {
		k.params = append(k.params, &madeValue{w: w})
	}
	for _, b := range k.blocksInOrder() {
		k.makeBlock(b)
	}
	for b := range k.blocks {
		k.closeBlock(int64(b))
	}
	return k.numbered()
}

// makeEnds leads nowhere to the first block, as a right function asks.
func (k *maker) makeEnds(n int64) {
	for range n {
		e := impl.Term{Kind: impl.TmRet}
		switch roll := k.below(10); {
		case roll < 5 && n > 2:
			e = branchTo(1+k.below(n-1), 0)
			e.Y = 1 + (e.X+k.below(n-2))%(n-1)
		case roll < 8 && n > 1:
			e = jumpTo(1 + k.below(n-1))
		case roll == 9:
			e = trapEnd()
		}
		k.blocks = append(k.blocks, &madeBlock{term: e})
		k.f.Blocks = append(k.f.Blocks, impl.Block{Term: e})
	}
	k.draw = refDrawing(k.f)
}

func (k *maker) blocksInOrder() []int64 {
	l := copyList(k.draw.order)
	for b := range k.blocks {
		if !has(l, int64(b)) {
			l = append(l, int64(b))
		}
	}
	return l
}

func (k *maker) makeBlock(b int64) {
	block := k.blocks[b]
	if b == 0 {
		for _, w := range widths() {
			block.insts = append(block.insts, &madeValue{w: w, inst: impl.Inst{Op: impl.OpConst, W: w, Imm: k.below(min(topOf(w), 39) + 1)}})
		}
	} else {
		for range k.below(3) {
			block.phis = append(block.phis, &madeValue{w: k.oneOf(widths())})
		}
	}
	for range k.below(k.size.insts) {
		block.insts = append(block.insts, k.madeInst(b))
	}
}

// seen are the values that stand where the end of b, as it is so far, sees
// them. A block that is not reached sees all.
func (k *maker) seen(b int64) []*madeValue {
	l := append([]*madeValue(nil), k.params...)
	for a, block := range k.blocks {
		if has(k.draw.doms[b], int64(a)) || !has(k.draw.reached, b) {
			l = append(append(l, block.phis...), block.insts...)
		}
	}
	return l
}

func (k *maker) pick(b int64, fits func(w int64) bool) *madeValue {
	var l []*madeValue
	for _, v := range k.seen(b) {
		if fits(v.w) {
			l = append(l, v)
		}
	}
	return l[k.below(int64(len(l)))]
}

func (k *maker) pickOf(b int64, wanted ...int64) []*madeValue {
	var l []*madeValue
	for _, w := range wanted {
		l = append(l, k.pick(b, func(x int64) bool { return x == w }))
	}
	return l
}

func (k *maker) madeInst(b int64) *madeValue {
	op := 1 + k.below(27)
	w := k.oneOf(widths())
	v := &madeValue{w: w, inst: impl.Inst{Op: op, W: w}}
	switch {
	case op <= impl.OpSLt:
		v.w = impl.ResultWidth(op, w)
		v.named = k.pickOf(b, w, w)
	case op <= impl.OpSext:
		v.w = k.oneOf([]int64{8, 16, 32})
		v.inst.W = v.w
		v.named = []*madeValue{k.pick(b, func(x int64) bool { return x > 0 && x < v.w })}
	case op == impl.OpTrunc:
		v.w = k.oneOf([]int64{1, 8, 16})
		v.inst.W = v.w
		v.named = []*madeValue{k.pick(b, func(x int64) bool { return x > v.w })}
	case op == impl.OpConst:
		v.inst.Imm = k.oneOf(edgesOf(w))
	case op == impl.OpSelect:
		v.named = k.pickOf(b, 1, w, w)
	case op == impl.OpLoad:
		v.w, v.inst.W = 8, 8
		v.named = k.pickOf(b, 32)
	case op == impl.OpStore:
		v.w, v.inst.W = 0, 0
		v.named = k.pickOf(b, 32, 8)
	case op == impl.OpPrint:
		v.w, v.inst.W = 0, 0
		v.named = k.pickOf(b, w)
	case op == impl.OpCall:
		v.inst.Imm = k.below(int64(len(k.m.Funcs)))
		callee := k.m.Funcs[v.inst.Imm]
		v.w, v.inst.W = callee.Ret, callee.Ret
		v.named = k.pickOf(b, callee.Params...)
	default:
		v.named = k.pickOf(b, w)
	}
	return v
}

// closeBlock chooses what could not be chosen ahead of all blocks.
func (k *maker) closeBlock(b int64) {
	block := k.blocks[b]
	switch block.term.Kind {
	case impl.TmRet:
		block.asked = k.pickOf(b, k.f.Ret)[0]
	case impl.TmBranch:
		block.asked = k.pickOf(b, 1)[0]
	}
	for _, phi := range block.phis {
		for _, p := range k.draw.preds[b] {
			phi.named = append(phi.named, k.pickOf(p, phi.w)...)
		}
	}
}

func idsOf(l []*madeValue) []int64 {
	var ids []int64
	for _, v := range l {
		ids = append(ids, v.id)
	}
	return ids
}

func (k *maker) numbered() impl.Func {
	all := append([]*madeValue(nil), k.params...)
	for _, b := range k.blocks {
		all = append(append(all, b.phis...), b.insts...)
	}
	for id, v := range all {
		v.id = int64(id)
	}
	for b, block := range k.blocks {
		out := &k.f.Blocks[b]
		for _, p := range block.phis {
			out.Phis = append(out.Phis, impl.Phi{W: p.w, Ins: idsOf(p.named)})
		}
		for _, v := range block.insts {
			out.Insts = append(out.Insts, naming(v.inst, idsOf(v.named)))
		}
		if block.asked != nil {
			out.Term.A = block.asked.id
		}
	}
	return k.f
}

// naming puts these ids where such an instruction has its operands.
func naming(i impl.Inst, ids []int64) impl.Inst {
	if i.Op == impl.OpCall {
		i.Args = ids
		return i
	}
	for at, id := range ids {
		*[]*int64{&i.A, &i.B, &i.C}[at] = id
	}
	return i
}
