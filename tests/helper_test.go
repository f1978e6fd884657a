package tests

import (
	"math"

	"loop.example/g00457/impl"
)

func widths() []int64 { return []int64{1, 8, 16, 32} }

// strangeWidths are the neighbours of the widths, and numbers far off.
func strangeWidths() []int64 {
	return []int64{math.MinInt64, -32, -8, -1, 0, 2, 7, 9, 15, 17, 31, 33, 63, 64, 65, math.MaxInt64}
}

func topOf(w int64) int64 { return int64(1)<<uint(w) - 1 }

// edgesOf are the values of a width at which something turns over.
func edgesOf(w int64) []int64 {
	var l []int64
	seen := map[int64]bool{}
	half := (topOf(w) + 1) / 2
	for _, n := range []int64{0, 1, 2, 3, 7, w - 1, w, w + 1, 2 * w, 100, half - 2, half - 1, half, half + 1, topOf(w) - 1, topOf(w)} {
		if n >= 0 && n <= topOf(w) && !seen[n] {
			seen[n] = true
			l = append(l, n)
		}
	}
	return l
}

// valuesOf are all values of a narrow width, and the edges of a wide one.
func valuesOf(w int64) []int64 {
	if w > 8 {
		return edgesOf(w)
	}
	var l []int64
	for n := int64(0); n <= topOf(w); n++ {
		l = append(l, n)
	}
	return l
}

func strangeValues(w int64) []int64 {
	return []int64{math.MinInt64, -topOf(w) - 1, -2, -1, topOf(w) + 1, topOf(w) + 2, 1 << 40, math.MaxInt64}
}

func sameList(a, b []int64) bool {
	if len(a) != len(b) {
		return false
	}
	for i := range a {
		if a[i] != b[i] {
			return false
		}
	}
	return true
}

func copyList(l []int64) []int64 { return append([]int64(nil), l...) }

func copyInst(i impl.Inst) impl.Inst {
	i.Args = copyList(i.Args)
	return i
}

func copyFunc(f impl.Func) impl.Func {
	out := impl.Func{Params: copyList(f.Params), Ret: f.Ret}
	for _, b := range f.Blocks {
		c := impl.Block{Term: b.Term}
		for _, p := range b.Phis {
			c.Phis = append(c.Phis, impl.Phi{W: p.W, Ins: copyList(p.Ins)})
		}
		for _, i := range b.Insts {
			c.Insts = append(c.Insts, copyInst(i))
		}
		out.Blocks = append(out.Blocks, c)
	}
	return out
}

func copyModule(m impl.Module) impl.Module {
	var out impl.Module
	for _, f := range m.Funcs {
		out.Funcs = append(out.Funcs, copyFunc(f))
	}
	return out
}
