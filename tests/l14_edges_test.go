package tests

import (
	"reflect"
	"slices"
	"testing"

	"loop.example/g00457/impl"
)

func TestCriticalByHand(t *testing.T) {
	for text, want := range map[string][]impl.Edge{
		// None: nothing leads on, jumps alone, branches to where nothing else leads.
		"func 8\nblock\ntrap\n":                                                      nil,
		"func 8 8\nblock\nret 0\n":                                                   nil,
		"func 8\nblock\njump 1\nblock\njump 1\n":                                     nil,
		"func 8 1\nblock\nbranch 0 1 2\nblock\ntrap\nblock\ntrap\n":                  nil,
		"func 8 1\nblock\nbranch 0 1 2\nblock\njump 3\nblock\njump 3\nblock\ntrap\n": nil,
		// One, by X and by Y.
		"func 8 1\nblock\nbranch 0 1 2\nblock\njump 2\nblock\ntrap\n": {{From: 0, To: 2}},
		"func 8 1\nblock\nbranch 0 2 1\nblock\njump 2\nblock\ntrap\n": {{From: 0, To: 2}},
		"func 8 1\nblock\nbranch 0 1 2\nblock\ntrap\nblock\njump 1\n": {{From: 0, To: 1}},
		// Both ways of one branch, told by where they lead.
		"func 8 1\nblock\nbranch 0 1 2\nblock\njump 2\nblock\njump 1\n": {{From: 0, To: 1}, {From: 0, To: 2}},
		"func 8 1\nblock\nbranch 0 2 1\nblock\njump 2\nblock\njump 1\n": {{From: 0, To: 1}, {From: 0, To: 2}},
		// A loop on itself.
		"func 8 1\nblock\njump 1\nblock\nbranch 0 1 2\nblock\ntrap\n": {{From: 1, To: 1}},
		"func 8 1\nblock\njump 1\nblock\nbranch 0 2 1\nblock\ntrap\n": {{From: 1, To: 1}},
		// To itself alone, from where no run comes.
		"func 8 1\nblock\ntrap\nblock\nbranch 0 1 2\nblock\ntrap\n": nil,
		// Several branches to one block, and those that are not reached count.
		"func 8 1\nblock\nbranch 0 1 3\nblock\nbranch 0 3 2\nblock\nbranch 0 3 1\nblock\ntrap\n": {{From: 0, To: 1}, {From: 0, To: 3}, {From: 1, To: 3}, {From: 2, To: 1}, {From: 2, To: 3}},
		"func 8 1\nblock\nbranch 0 1 2\nblock\ntrap\nblock\ntrap\nblock\njump 2\n":               {{From: 0, To: 2}},
		"func 8 1\nblock\njump 1\nblock\ntrap\nblock\nbranch 0 1 3\nblock\ntrap\n":               {{From: 2, To: 1}},
		// In its form, but not right: the first block, phis that do not fit, what is asked.
		"func 8 8\nblock\nbranch 0 0 1\nblock\njump 0\n":                                    {{From: 0, To: 0}},
		"func 8 8\nblock\nphi 16 0 0 0\nbranch 0 1 2\nblock\nphi 8\njump 2\nblock\nret 0\n": {{From: 0, To: 2}},
	} {
		if got := impl.Critical(readFunc(t, text)); !slices.Equal(got, want) {
			t.Errorf("%q: %v, not %v", text, got, want)
		}
	}
}

func TestNoCriticalEdges(t *testing.T) {
	for name, f := range formless() {
		if l := impl.Critical(f); len(l) > 0 {
			t.Error(name, l)
		}
	}
	// A branch whose ways are alike is in no form.
	f := readFunc(t, "func 8 1\nblock\nbranch 0 1 2\nblock\njump 2\nblock\ntrap\n")
	f.Blocks[0].Term.X = 2
	if l := impl.Critical(f); len(l) > 0 {
		t.Error(l)
	}
	// A call of a function that only another module has is in its form.
	f = readFunc(t, "func 8 1\nblock\ncall 8 0 0\nbranch 0 1 2\nblock\njump 2\nblock\ntrap\n")
	f.Blocks[0].Insts[0].Imm = impl.MaxFuncs - 1
	if l := impl.Critical(f); !slices.Equal(l, []impl.Edge{{From: 0, To: 2}}) {
		t.Error(l)
	}
	f.Blocks[0].Insts[0].Imm = impl.MaxFuncs
	if l := impl.Critical(f); len(l) > 0 {
		t.Error(l)
	}
}

// refCritical asks of each pair of blocks.
func refCritical(f impl.Func) []impl.Edge {
	d := refDrawing(f)
	var l []impl.Edge
	for from := range f.Blocks {
		for to := range f.Blocks {
			if len(d.succs[from]) > 1 && has(d.succs[from], int64(to)) && len(d.preds[to]) > 1 {
				l = append(l, impl.Edge{From: int64(from), To: int64(to)})
			}
		}
	}
	return l
}

func TestCriticalAgainstOtherWays(t *testing.T) {
	d := &dice{seed: 61}
	counts := map[int]int{}
	for n, m := range graphModules(400) {
		if n%4 > 1 {
			m = disturbed(m, d)
		}
		for _, f := range m.Funcs {
			var want []impl.Edge
			if impl.ShapeOk(impl.Module{Funcs: []impl.Func{f, counted(0), counted(0)}}) {
				want = refCritical(f)
			}
			got := impl.Critical(f)
			if !slices.Equal(got, want) {
				t.Fatal(impl.ModuleText(alone(f)), got, want)
			}
			counts[len(got)]++
		}
	}
	for n := range 6 {
		if counts[n] < 10 {
			t.Error(n, counts)
		}
	}
	// All graphs of at most three blocks, those with branches that are none too.
	for _, f := range drawnGraphs() {
		f = copyFunc(f)
		f.Params, f.Ret = []int64{1}, 1
		var want []impl.Edge
		if impl.ShapeOk(alone(f)) {
			want = refCritical(f)
		}
		if got := impl.Critical(f); !slices.Equal(got, want) {
			t.Fatal(f, got, want)
		}
	}
}

func TestSplitByHand(t *testing.T) {
	passesTo(t, impl.Split, map[string]string{
		"func 8\nblock\ntrap\n": "func 8\nblock\ntrap\n",
		// None.
		"func 8 8 1\nblock\nbranch 1 1 2\nblock\njump 3\nblock\njump 3\nblock\nphi 8 0 0\nret 2\n": "func 8 8 1\nblock\nbranch 1 1 2\nblock\njump 3\nblock\njump 3\nblock\nphi 8 0 0\nret 2\n",
		// One, by X and by Y: what phis have for it comes last.
		"func 8 8 1\nblock\nbranch 1 2 1\nblock\nconst 8 1\njump 2\nblock\nphi 8 0 2\nret 3\n": "func 8 8 1\nblock\nbranch 1 3 1\nblock\nconst 8 1\njump 2\nblock\nphi 8 2 0\nret 3\nblock\njump 2\n",
		"func 8 8 1\nblock\nbranch 1 1 2\nblock\nconst 8 1\njump 2\nblock\nphi 8 0 2\nret 3\n": "func 8 8 1\nblock\nbranch 1 1 3\nblock\nconst 8 1\njump 2\nblock\nphi 8 2 0\nret 3\nblock\njump 2\n",
		// It was the last already.
		"func 8 8 1\nblock\njump 1\nblock\nphi 8 0 3\nadd 8 2 0\nbranch 1 1 2\nblock\nret 3\n": "func 8 8 1\nblock\njump 1\nblock\nphi 8 0 3\nadd 8 2 0\nbranch 1 3 2\nblock\nret 3\nblock\njump 1\n",
		// Both ways of one branch: new blocks stand in the order of where they lead.
		"func 8 8 1\nblock\nconst 8 3\nbranch 1 2 1\nblock\nphi 8 2 4\njump 2\nblock\nphi 8 2 3\njump 1\n": "func 8 8 1\nblock\nconst 8 3\nbranch 1 4 3\nblock\nphi 8 4 2\njump 2\nblock\nphi 8 3 2\njump 1\nblock\njump 1\nblock\njump 2\n",
		// Several that lead to one block: jumps first, then the new ones.
		"func 8 8 8 8 8\nblock\ntrunc 1 0\nbranch 4 1 2\nblock\nbranch 4 4 3\nblock\nbranch 4 4 3\nblock\njump 4\nblock\nphi 8 0 1 2\nphi 8 3 3 0\nret 5\n": "func 8 8 8 8 8\nblock\ntrunc 1 0\nbranch 4 1 2\nblock\nbranch 4 6 5\nblock\nbranch 4 8 7\nblock\njump 4\nblock\nphi 8 2 0 1\nphi 8 0 3 3\nret 5\nblock\njump 3\nblock\njump 4\nblock\njump 3\nblock\njump 4\n",
		// Where no run comes.
		"func 8 8 1\nblock\njump 1\nblock\nphi 8 0 2\nret 2\nblock\nbranch 1 3 1\nblock\ntrap\n": "func 8 8 1\nblock\njump 1\nblock\nphi 8 0 2\nret 2\nblock\nbranch 1 3 4\nblock\ntrap\nblock\njump 1\n",
		// Function by function.
		"func 8 1\nblock\nbranch 0 1 2\nblock\njump 2\nblock\ntrap\nfunc 8\nblock\ntrap\nfunc 8 1\nblock\njump 1\nblock\nbranch 0 1 2\nblock\ntrap\n": "func 8 1\nblock\nbranch 0 1 3\nblock\njump 2\nblock\ntrap\nblock\njump 2\nfunc 8\nblock\ntrap\nfunc 8 1\nblock\njump 1\nblock\nbranch 0 3 2\nblock\ntrap\nblock\njump 1\n",
	})
}

// refSplit works out, for each block that leads somewhere, who comes there in
// its place, and turns the phis when all new blocks are there.
func refSplit(f impl.Func) impl.Func {
	g := copyFunc(f)
	preds := refDrawing(f).preds
	for _, e := range refCritical(f) {
		between := int64(len(g.Blocks))
		g.Blocks = append(g.Blocks, impl.Block{Term: jumpTo(e.To)})
		end := &g.Blocks[e.From].Term
		if f.Blocks[e.From].Term.X == e.To {
			end.X = between
		} else {
			end.Y = between
		}
		preds[e.To][slices.Index(preds[e.To], e.From)] = between
	}
	for b, places := range preds {
		for k, p := range g.Blocks[b].Phis {
			g.Blocks[b].Phis[k].Ins = turned(p.Ins, places)
		}
	}
	return g
}

// mostBlocks is the number of blocks of the function that has most.
func mostBlocks(m impl.Module) int {
	n := 0
	for _, f := range m.Funcs {
		n = max(n, len(f.Blocks))
	}
	return n
}

func TestSplitAgainstOtherWays(t *testing.T) {
	sizes := map[int]int{}
	changed := 0
	for _, m := range graphModules(500) {
		var want impl.Module
		for _, f := range m.Funcs {
			want.Funcs = append(want.Funcs, refSplit(f))
		}
		sizes[mostBlocks(want)]++
		may := mostBlocks(want) <= impl.MaxBlocks
		if !may {
			want = impl.Module{}
		}
		got, ok := impl.Split(m)
		if ok != may || !sameModule(got, want) {
			t.Fatal(impl.ModuleText(m), ok, impl.ModuleText(got), impl.ModuleText(want))
		}
		if ok && !sameModule(got, m) {
			changed++
		}
	}
	if changed < 100 || sizes[impl.MaxBlocks] < 10 || sizes[impl.MaxBlocks+1] < 10 || sizes[impl.MaxBlocks+4] < 10 {
		t.Error(changed, sizes)
	}
}

// No edge is left from where two lead on to where two come together, and all
// runs as it did.
func TestWhatIsSplitHasNoCriticalEdge(t *testing.T) {
	d := &dice{seed: 19}
	ran, changed := 0, 0
	for _, m := range graphModules(400) {
		out, ok := impl.Split(m)
		if !ok {
			continue
		}
		if c := impl.Checked(out); c != impl.VfOk {
			t.Fatal(impl.ModuleText(m), impl.ModuleText(out), c)
		}
		for k, f := range out.Funcs {
			if len(impl.Critical(f)) > 0 || len(refCritical(f)) > 0 {
				t.Fatal(impl.ModuleText(m), impl.ModuleText(out))
			}
			was := m.Funcs[k]
			if impl.CountOf(f) != impl.CountOf(was) || len(f.Blocks) != len(was.Blocks)+len(refCritical(was)) {
				t.Fatal(impl.ModuleText(m), impl.ModuleText(out))
			}
		}
		staysBy(t, impl.Split, out)
		ran += runsAlike(t, m, out, d, false)
		if !sameModule(out, m) {
			changed++
		}
	}
	if ran < 1000 || changed < 100 {
		t.Error(ran, changed)
	}
}

// A run takes one step more for each new block that it comes through.
func TestStepsOfWhatIsSplit(t *testing.T) {
	text := "func 8 8\nblock\nconst 8 1\njump 1\nblock\nphi 8 0 3\nsub 8 2 1\neq 8 3 0\neq 8 3 1\nbranch 5 2 1\nblock\nret 2\n"
	runsTo(t, text, []int64{5}, noughts(), 99, done(2, 2+4*4+1))
	runsTo(t, passed(t, impl.Split, text), []int64{5}, noughts(), 99, done(2, 2+4*4+3+1))
}

// withEdges has that many blocks, and that many critical edges, 5 at most: all
// to one block.
func withEdges(blocks int, edges int) impl.Func {
	f := impl.Func{Params: []int64{1}, Ret: 1}
	last := int64(blocks - 1)
	for b := range int64(blocks - 1) {
		switch {
		case b < int64(edges):
			f.Blocks = append(f.Blocks, impl.Block{Term: branchOf(0, b+1, last)})
		case b == int64(edges):
			f.Blocks = append(f.Blocks, impl.Block{Term: jumpTo(last)})
		default:
			f.Blocks = append(f.Blocks, impl.Block{Term: trapEnd()})
		}
	}
	f.Blocks = append(f.Blocks, impl.Block{Term: retOf(0)})
	return f
}

// Just as many blocks as there may be, and one more, in each of the functions.
func TestSplitAtItsLimit(t *testing.T) {
	for edges := range 5 {
		for blocks := edges + 2; blocks <= impl.MaxBlocks; blocks++ {
			f := withEdges(blocks, edges)
			if n := len(impl.Critical(f)); n != edges || impl.Checked(alone(f)) != impl.VfOk {
				t.Fatal(blocks, edges, n)
			}
			for k := range impl.MaxFuncs {
				m := repeated(withEdges(impl.MaxBlocks-2, 2), impl.MaxFuncs)
				m.Funcs[k] = f
				out, ok := impl.Split(m)
				if ok != (blocks+edges <= impl.MaxBlocks) {
					t.Error(blocks, edges, k, ok)
				}
				if !ok && !reflect.DeepEqual(out, impl.Module{}) {
					t.Error(blocks, edges, k, out)
				}
				if ok && (impl.Checked(out) != impl.VfOk || len(out.Funcs[k].Blocks) != blocks+edges || !sameFunc(out.Funcs[k], refSplit(f))) {
					t.Error(blocks, edges, k, out)
				}
			}
		}
	}
	// As many edges as there may be.
	f := impl.Func{Params: []int64{1}, Ret: 1}
	for range impl.MaxBlocks {
		f.Blocks = append(f.Blocks, impl.Block{Term: branchOf(0, 1, 2)})
	}
	if l := impl.Critical(f); len(l) != 2*impl.MaxBlocks || !slices.Equal(l, refCritical(f)) {
		t.Error(l)
	}
	if out, ok := impl.Split(alone(f)); ok || len(out.Funcs) > 0 {
		t.Error(out)
	}
}

func TestSplitRefuses(t *testing.T) { refusesWrong(t, impl.Split) }

func TestEdgesWriteNothing(t *testing.T) {
	writesNothing(t, impl.Split)
	for seed := range uint64(40) {
		m := roomy(busyModule(seed))
		for _, f := range m.Funcs {
			a, b := impl.Critical(f), impl.Critical(f)
			if !slices.Equal(a, b) || shareMemory(f, a, b) {
				t.Fatal(seed, a, b)
			}
		}
		if !reflect.DeepEqual(allOf(m), allOf(roomy(busyModule(seed)))) {
			t.Fatal(seed, "written into an argument")
		}
	}
}

// Whatever passes come one after the other, what comes of them is right and
// runs as it did.
func TestAllPassesOneAfterTheOther(t *testing.T) {
	d := &dice{seed: 23}
	all := []pass{impl.Folded, impl.CopiesGone, impl.Cleaned, impl.Shared, impl.Chosen, impl.Pruned, impl.Joined, impl.Propagated, impl.Split}
	ran, refused := 0, 0
	for _, m := range graphModules(200) {
		out := m
		for range 12 {
			k := d.below(int64(len(all)))
			next, ok := all[k](out)
			if !ok && k == 8 {
				refused++
				continue
			}
			if !ok || impl.Checked(next) != impl.VfOk {
				t.Fatal(k, impl.ModuleText(out), ok, impl.Checked(next))
			}
			out = next
		}
		ran += runsAlike(t, m, out, d, false)
	}
	if ran < 1000 || refused == 0 {
		t.Error(ran, refused)
	}
}
