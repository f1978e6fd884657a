package tests

import (
	"math"
	"reflect"
	"testing"

	"loop.example/g00457/impl"
)

func jumpTo(x int64) impl.Term { return impl.Term{Kind: impl.TmJump, X: x} }

func branchTo(x int64, y int64) impl.Term { return impl.Term{Kind: impl.TmBranch, X: x, Y: y} }

func trapEnd() impl.Term { return impl.Term{Kind: impl.TmTrap} }

// leading has a block with nothing else for each of these ends.
func leading(ends ...impl.Term) impl.Func {
	f := impl.Func{Ret: 8}
	for _, e := range ends {
		f.Blocks = append(f.Blocks, impl.Block{Term: e})
	}
	return f
}

// A drawing is what all functions of the chapter should tell of a function.
type drawing struct {
	succs, preds   [][]int64
	reached, order []int64
	doms           [][]int64 // of each block, those that dominate it
	idoms          []int64
}

func drawn(f impl.Func) drawing {
	d := drawing{reached: impl.Reached(f), order: impl.OrderOf(f)}
	n := int64(len(f.Blocks))
	for b := int64(0); b < n; b++ {
		d.succs = append(d.succs, impl.SuccsOf(f, b))
		d.preds = append(d.preds, impl.PredsOf(f, b))
		d.idoms = append(d.idoms, impl.IdomOf(f, b))
		var doms []int64
		for a := int64(0); a < n; a++ {
			if impl.Dominates(f, a, b) {
				doms = append(doms, a)
			}
		}
		d.doms = append(d.doms, doms)
	}
	return d
}

func sameLists(a, b [][]int64) bool {
	if len(a) != len(b) {
		return false
	}
	for i := range a {
		if !sameList(a[i], b[i]) {
			return false
		}
	}
	return true
}

func sameDrawing(a, b drawing) bool {
	return sameLists(a.succs, b.succs) && sameLists(a.preds, b.preds) && sameLists(a.doms, b.doms) &&
		sameList(a.reached, b.reached) && sameList(a.order, b.order) && sameList(a.idoms, b.idoms)
}

func TestGraphsByHand(t *testing.T) {
	type lists = [][]int64
	for _, r := range []struct {
		name string
		f    impl.Func
		want drawing
	}{
		{"a block alone", leading(trapEnd()), drawing{lists{{}}, lists{{}}, []int64{0}, []int64{0}, lists{{0}}, []int64{-1}}},
		{"a block that leads to itself", leading(jumpTo(0)), drawing{lists{{0}}, lists{{0}}, []int64{0}, []int64{0}, lists{{0}}, []int64{-1}}},
		{"both ways to itself", leading(branchTo(0, 0)), drawing{lists{{0, 0}}, lists{{0}}, []int64{0}, []int64{0}, lists{{0}}, []int64{-1}}},
		{"both ways one block", leading(branchTo(1, 1), impl.Term{Kind: impl.TmRet}),
			drawing{lists{{1, 1}, {}}, lists{{}, {0}}, []int64{0, 1}, []int64{0, 1}, lists{{0}, {0, 1}}, []int64{-1, 0}}},
		{"the greater one first", leading(branchTo(2, 1), trapEnd(), trapEnd()),
			drawing{lists{{2, 1}, {}, {}}, lists{{}, {0}, {0}}, []int64{0, 1, 2}, []int64{0, 1, 2}, lists{{0}, {0, 1}, {0, 2}}, []int64{-1, 0, 0}}},
		{"the lesser one first", leading(branchTo(1, 2), trapEnd(), trapEnd()),
			drawing{lists{{1, 2}, {}, {}}, lists{{}, {0}, {0}}, []int64{0, 1, 2}, []int64{0, 2, 1}, lists{{0}, {0, 1}, {0, 2}}, []int64{-1, 0, 0}}},
		{"apart and together", leading(branchTo(1, 2), jumpTo(3), jumpTo(3), trapEnd()),
			drawing{lists{{1, 2}, {3}, {3}, {}}, lists{{}, {0}, {0}, {1, 2}}, []int64{0, 1, 2, 3}, []int64{0, 2, 1, 3}, lists{{0}, {0, 1}, {0, 2}, {0, 3}}, []int64{-1, 0, 0, 0}}},
		{"a loop with a way out", leading(jumpTo(2), trapEnd(), branchTo(3, 1), jumpTo(2)),
			drawing{lists{{2}, {}, {3, 1}, {2}}, lists{{}, {2}, {0, 3}, {2}}, []int64{0, 1, 2, 3}, []int64{0, 2, 1, 3}, lists{{0}, {0, 1, 2}, {0, 2}, {0, 2, 3}}, []int64{-1, 2, 0, 2}}},
		{"a loop with two ways in", leading(branchTo(1, 2), jumpTo(2), jumpTo(1)),
			drawing{lists{{1, 2}, {2}, {1}}, lists{{}, {0, 2}, {0, 1}}, []int64{0, 1, 2}, []int64{0, 1, 2}, lists{{0}, {0, 1}, {0, 2}}, []int64{-1, 0, 0}}},
		{"not reached, and leading on", leading(jumpTo(2), jumpTo(2), trapEnd(), jumpTo(1)),
			drawing{lists{{2}, {2}, {}, {1}}, lists{{}, {3}, {0, 1}, {}}, []int64{0, 2}, []int64{0, 2}, lists{{0}, {}, {0, 2}, {}}, []int64{-1, -1, 0, -1}}},
		{"not reached, and back to the first", leading(trapEnd(), branchTo(0, 1)),
			drawing{lists{{}, {0, 1}}, lists{{1}, {1}}, []int64{0}, []int64{0}, lists{{0}, {}}, []int64{-1, -1}}},
		{"a row the other way round", leading(jumpTo(3), trapEnd(), jumpTo(1), jumpTo(2)),
			drawing{lists{{3}, {}, {1}, {2}}, lists{{}, {2}, {3}, {0}}, []int64{0, 1, 2, 3}, []int64{0, 3, 2, 1}, lists{{0}, {0, 1, 2, 3}, {0, 2, 3}, {0, 3}}, []int64{-1, 2, 3, 0}}},
	} {
		if got := drawn(r.f); !sameDrawing(got, r.want) {
			t.Errorf("%s:\n%v\n%v", r.name, got, r.want)
		}
	}
}

// refDrawing goes other ways than walks: reaching by going round until nothing
// changes, dominators by cutting lists, the order by a stack of its own.
func refDrawing(f impl.Func) drawing {
	var d drawing
	n := len(f.Blocks)
	d.succs, d.preds = make([][]int64, n), make([][]int64, n)
	for b, block := range f.Blocks {
		switch block.Term.Kind {
		case impl.TmJump:
			d.succs[b] = []int64{block.Term.X}
		case impl.TmBranch:
			d.succs[b] = []int64{block.Term.X, block.Term.Y}
		}
	}
	for to := range f.Blocks {
		for b := range f.Blocks {
			if has(d.succs[b], int64(to)) {
				d.preds[to] = append(d.preds[to], int64(b))
			}
		}
	}
	is := make([]bool, n)
	is[0] = true
	for range f.Blocks {
		for b := range f.Blocks {
			for _, to := range d.succs[b] {
				is[to] = is[to] || is[b]
			}
		}
	}
	for b := range is {
		if is[b] {
			d.reached = append(d.reached, int64(b))
		}
	}
	d.doms = refDoms(d, n)
	for b := range f.Blocks {
		d.idoms = append(d.idoms, refIdom(d.doms, int64(b)))
	}
	d.order = refOrder(d.succs)
	return d
}

func has(l []int64, x int64) bool {
	for _, y := range l {
		if y == x {
			return true
		}
	}
	return false
}

func refDoms(d drawing, n int) [][]int64 {
	doms := make([][]int64, n)
	for _, b := range d.reached {
		doms[b] = d.reached
	}
	doms[0] = []int64{0}
	for range n * n {
		for _, b := range d.reached[1:] {
			var l []int64
			for _, a := range d.reached {
				all := true
				for _, p := range d.preds[b] {
					all = all && (!has(d.reached, p) || has(doms[p], a))
				}
				if all || a == b {
					l = append(l, a)
				}
			}
			doms[b] = l
		}
	}
	return doms
}

// refIdom is the one that has all others of b's: as many as b, less b.
func refIdom(doms [][]int64, b int64) int64 {
	for _, a := range doms[b] {
		if len(doms[a]) == len(doms[b])-1 {
			return a
		}
	}
	return -1
}

func refOrder(succs [][]int64) []int64 {
	type stop struct {
		b    int64
		next int
	}
	seen := map[int64]bool{0: true}
	stack := []stop{{}}
	var l []int64
	for len(stack) > 0 {
		top := &stack[len(stack)-1]
		if top.next == len(succs[top.b]) {
			l = append([]int64{top.b}, l...)
			stack = stack[:len(stack)-1]
			continue
		}
		to := succs[top.b][top.next]
		top.next++
		if !seen[to] {
			seen[to] = true
			stack = append(stack, stop{b: to})
		}
	}
	return l
}

// endsOf are all ends that are right among n blocks.
func endsOf(n int64) []impl.Term {
	l := []impl.Term{trapEnd()}
	for x := int64(0); x < n; x++ {
		l = append(l, jumpTo(x))
		for y := int64(0); y < n; y++ {
			l = append(l, branchTo(x, y))
		}
	}
	return l
}

// drawnGraphs are all with at most three blocks, and some of each number above.
func drawnGraphs() []impl.Func {
	var l []impl.Func
	for n := int64(1); n <= 3; n++ {
		ends := endsOf(n)
		count := 1
		for range n {
			count *= len(ends)
		}
		for k := range count {
			var chosen []impl.Term
			for range n {
				chosen = append(chosen, ends[k%len(ends)])
				k /= len(ends)
			}
			l = append(l, leading(chosen...))
		}
	}
	d := &dice{seed: 3}
	for n := int64(4); n <= impl.MaxBlocks; n++ {
		ends := endsOf(n)
		for range 150 {
			var chosen []impl.Term
			for range n {
				chosen = append(chosen, ends[d.below(int64(len(ends)))])
			}
			l = append(l, leading(chosen...))
		}
	}
	return l
}

func TestGraphsAgainstOtherWays(t *testing.T) {
	for _, f := range drawnGraphs() {
		if got, want := drawn(f), refDrawing(f); !sameDrawing(got, want) {
			t.Fatalf("%v\n%v\n%v", f, got, want)
		}
	}
}

func TestLeadingAndBeingLedTo(t *testing.T) {
	for _, f := range drawnGraphs() {
		d := drawn(f)
		for b := range f.Blocks {
			for to := range f.Blocks {
				if has(d.succs[b], int64(to)) != has(d.preds[to], int64(b)) {
					t.Fatal(f, b, to)
				}
			}
		}
	}
}

func TestDominatingIsHandedOn(t *testing.T) {
	for _, f := range drawnGraphs() {
		d := drawn(f)
		for c := range f.Blocks {
			if len(d.doms[c]) > 0 != has(d.reached, int64(c)) || len(d.doms[c]) > 0 && (!has(d.doms[c], 0) || !has(d.doms[c], int64(c))) {
				t.Fatal(f, c)
			}
			for _, b := range d.doms[c] {
				for _, a := range d.doms[b] {
					if !has(d.doms[c], a) {
						t.Fatal(f, a, b, c)
					}
				}
			}
		}
	}
}

func TestOrderIsBehindDominators(t *testing.T) {
	for _, f := range drawnGraphs() {
		d := drawn(f)
		if len(d.order) != len(d.reached) || d.order[0] != 0 {
			t.Fatal(f, d.order)
		}
		for at, b := range d.order {
			for _, a := range d.doms[b] {
				if !has(d.order[:at+1], a) {
					t.Fatal(f, d.order, a, b)
				}
			}
		}
	}
}

// tellsNothing asks for the answers that a function that is not right has.
func tellsNothing(t *testing.T, name string, f impl.Func) {
	t.Helper()
	if l := impl.Reached(f); len(l) != 0 {
		t.Error(name, l)
	}
	if l := impl.OrderOf(f); len(l) != 0 {
		t.Error(name, l)
	}
	for b := int64(-1); b <= int64(len(f.Blocks)); b++ {
		noSuchBlock(t, name, f, b)
	}
}

func noSuchBlock(t *testing.T, name string, f impl.Func, b int64) {
	t.Helper()
	if l := impl.SuccsOf(f, b); len(l) != 0 {
		t.Error(name, b, l)
	}
	if l := impl.PredsOf(f, b); len(l) != 0 {
		t.Error(name, b, l)
	}
	if d := impl.IdomOf(f, b); d != -1 {
		t.Error(name, b, d)
	}
	for a := int64(-1); a <= int64(len(f.Blocks)); a++ {
		if impl.Dominates(f, a, b) || impl.Dominates(f, b, a) {
			t.Error(name, a, b)
		}
	}
}

func TestGraphsNotRight(t *testing.T) {
	tellsNothing(t, "no blocks", leading())
	tellsNothing(t, "nil", impl.Func{})
	var many []impl.Term
	for b := int64(0); b < impl.MaxBlocks; b++ {
		many = append(many, jumpTo((b+1)%impl.MaxBlocks))
	}
	if l := impl.Reached(leading(many...)); len(l) != impl.MaxBlocks {
		t.Error("as many blocks as may be", l)
	}
	tellsNothing(t, "one block too many", leading(append(many, trapEnd())...))
	for _, x := range []int64{math.MinInt64, -1, 3, 4, math.MaxInt64} {
		for b := range 3 {
			for _, e := range []impl.Term{jumpTo(x), branchTo(x, 0), branchTo(0, x), branchTo(x, x)} {
				f := leading(branchTo(0, 1), jumpTo(1), trapEnd())
				f.Blocks[b].Term = e
				tellsNothing(t, "an end that leads nowhere", f)
			}
		}
	}
}

// The fields that an end does not lead by may hold anything, and an end of no
// kind leads nowhere.
func TestEndsThatDoNotLead(t *testing.T) {
	for _, far := range []int64{math.MinInt64, -1, 0, 1, 77, math.MaxInt64} {
		for _, kind := range []int64{math.MinInt64, -1, 0, impl.TmRet, impl.TmTrap, 5, math.MaxInt64} {
			f := leading(jumpTo(1), impl.Term{Kind: kind, A: far, X: far, Y: far}, jumpTo(1))
			if !sameDrawing(drawn(f), drawn(leading(jumpTo(1), trapEnd(), jumpTo(1)))) {
				t.Error(kind, far)
			}
		}
		f := leading(impl.Term{Kind: impl.TmJump, A: far, X: 1, Y: far}, impl.Term{Kind: impl.TmBranch, A: far, X: 0, Y: 1})
		if !sameDrawing(drawn(f), drawn(leading(jumpTo(1), branchTo(0, 1)))) {
			t.Error(far)
		}
	}
}

func TestBlocksThatAreNone(t *testing.T) {
	f := leading(branchTo(1, 2), jumpTo(0), trapEnd())
	for _, b := range []int64{math.MinInt64, -2, -1, 3, 4, impl.MaxBlocks - 1, impl.MaxBlocks, math.MaxInt64} {
		noSuchBlock(t, "no such block", f, b)
		if impl.Dominates(f, b, b) {
			t.Error(b)
		}
	}
}

// Phis, instructions and widths do not matter here.
func TestGraphsOfWhatIsInNoForm(t *testing.T) {
	f := leading(branchTo(1, 2), jumpTo(0), trapEnd())
	want := drawn(f)
	f.Ret, f.Params = -3, make([]int64, 100)
	f.Blocks[0].Insts = []impl.Inst{{Op: 99, A: -1, Args: make([]int64, 40)}}
	f.Blocks[1].Phis = []impl.Phi{{W: 3, Ins: make([]int64, 70)}}
	if !sameDrawing(drawn(f), want) {
		t.Error(drawn(f))
	}
}

func TestGraphsAreNewMemory(t *testing.T) {
	f := leading(branchTo(1, 2), jumpTo(3), jumpTo(3), branchTo(0, 3))
	f.Blocks = append(make([]impl.Block, 0, 9), f.Blocks...)
	spare := f.Blocks[:5]
	spare[4] = impl.Block{Term: jumpTo(7)}
	before, want := copyFunc(f), drawn(f)
	for _, l := range [][]int64{impl.Reached(f), impl.OrderOf(f), impl.SuccsOf(f, 0), impl.PredsOf(f, 3)} {
		for at := range l {
			l[at] = 99
		}
	}
	if !sameDrawing(drawn(f), want) || !reflect.DeepEqual(copyFunc(f), before) || spare[4].Term != jumpTo(7) {
		t.Error(f)
	}
}
