package tests

import (
	"reflect"
	"testing"

	"loop.example/g00457/impl"
)

func sameFunc(a, b impl.Func) bool { return sameModule(alone(a), alone(b)) }

// asItWas has each id of a function at its own place.
func asItWas(f impl.Func) []int64 {
	var l []int64
	for id := range impl.CountOf(f) {
		l = append(l, id)
	}
	return l
}

func substituted(t *testing.T, f impl.Func, to []int64) impl.Func {
	t.Helper()
	g, ok := impl.Substituted(f, to)
	if !ok {
		t.Fatal(impl.ModuleText(alone(f)), to)
	}
	return g
}

func refSubstituted(f impl.Func, to []int64) impl.Func {
	g := copyFunc(f)
	eachNamed(&g, func(id *int64) { *id = to[*id] })
	return g
}

func TestSubstitutedByHand(t *testing.T) {
	text := "func 8 8 8\nblock\nconst 8 1\ncall 8 0 0 2\nselect 8 0 1 2\nstore 0 0 1\njump 1\nblock\nphi 8 0 6\nphi 8 1 5\nbranch 6 1 2\nblock\nret 3\n"
	m, ok := impl.ReadModule(text)
	if !ok {
		t.Fatal(text)
	}
	for _, r := range []struct {
		to   []int64
		want string
	}{
		{[]int64{0, 1, 2, 3, 4, 5, 6, 7}, text},
		{[]int64{7, 6, 5, 4, 3, 2, 1, 0}, "func 8 8 8\nblock\nconst 8 1\ncall 8 0 7 5\nselect 8 7 6 5\nstore 0 7 6\njump 1\nblock\nphi 8 7 1\nphi 8 6 2\nbranch 1 1 2\nblock\nret 4\n"},
		{[]int64{1, 2, 3, 4, 5, 6, 7, 0}, "func 8 8 8\nblock\nconst 8 1\ncall 8 0 1 3\nselect 8 1 2 3\nstore 0 1 2\njump 1\nblock\nphi 8 1 7\nphi 8 2 6\nbranch 7 1 2\nblock\nret 4\n"},
		{[]int64{7, 7, 7, 7, 7, 7, 7, 7}, "func 8 8 8\nblock\nconst 8 1\ncall 8 0 7 7\nselect 8 7 7 7\nstore 0 7 7\njump 1\nblock\nphi 8 7 7\nphi 8 7 7\nbranch 7 1 2\nblock\nret 7\n"},
	} {
		if got := impl.ModuleText(alone(substituted(t, m.Funcs[0], r.to))); got != r.want {
			t.Errorf("%v: %q, not %q", r.to, got, r.want)
		}
	}
}

// What does not name an id stays, whatever number stands there: each op's
// Imm and W, and where ends lead.
func TestSubstitutedInEachOp(t *testing.T) {
	for op := int64(1); op <= impl.OpCopy; op++ {
		f := holding(rightInst(op)).Funcs[0]
		for _, to := range [][]int64{{0, 1, 2, 3, 4}, {1, 1, 1, 1, 1}, {4, 3, 2, 1, 0}, {3, 0, 4, 2, 1}} {
			if got, want := substituted(t, f, to), refSubstituted(f, to); !sameFunc(got, want) {
				t.Error(op, to, got, want)
			}
		}
	}
	for _, e := range []impl.Term{retOf(3), jumpTo(2), branchOf(1, 2, 0), branchOf(0, 1, 2), trapEnd()} {
		f := ending(e).Funcs[0]
		got := substituted(t, f, []int64{2, 3, 0, 1})
		want := e
		if e.Kind == impl.TmRet || e.Kind == impl.TmBranch {
			want.A = []int64{2, 3, 0, 1}[e.A]
		}
		if got.Blocks[0].Term != want {
			t.Error(e, got.Blocks[0].Term)
		}
	}
}

// A function in its form need not be right, nor all modules hold it.
func TestSubstitutedInForm(t *testing.T) {
	for name, m := range modulesAtLimits() {
		for _, f := range m.Funcs {
			if !sameFunc(substituted(t, f, asItWas(f)), f) {
				t.Error(name)
			}
		}
	}
	f := holding(impl.Inst{Op: impl.OpCall, W: 32, Imm: impl.MaxFuncs - 1, Args: []int64{3}}).Funcs[0]
	if got := substituted(t, f, []int64{0, 0, 0, 2, 0}); got.Blocks[0].Insts[4].Args[0] != 2 || got.Blocks[0].Insts[4].Imm != impl.MaxFuncs-1 {
		t.Error(got)
	}
	none := counted(0)
	for _, to := range [][]int64{nil, {}} {
		if !sameFunc(substituted(t, none, to), none) {
			t.Error(to)
		}
	}
	if _, ok := impl.Substituted(none, []int64{0}); ok {
		t.Error("an id where there is none")
	}
}

func TestNotSubstituted(t *testing.T) {
	refused := func(name string, f impl.Func, to []int64) {
		t.Helper()
		if g, ok := impl.Substituted(f, to); ok || !reflect.DeepEqual(g, impl.Func{}) {
			t.Error(name, to, g)
		}
	}
	f := calledModule().Funcs[0]
	right := asItWas(f)
	refused("too few", f, right[:len(right)-1])
	refused("none", f, nil)
	refused("too many", f, append(copyList(right), 0))
	for at := range right {
		for _, id := range strangeIds(f) {
			to := copyList(right)
			to[at] = id
			refused("no id", f, to)
		}
	}
	for name, g := range formless() {
		refused(name, g, asItWas(g))
	}
}

func TestEachOperandIsWhatItIsToldToBe(t *testing.T) {
	d := &dice{seed: 3}
	for seed := range uint64(300) {
		for _, f := range madeModule(seed).Funcs {
			if !sameFunc(substituted(t, f, asItWas(f)), f) {
				t.Fatal(seed)
			}
			var to []int64
			for range impl.CountOf(f) {
				to = append(to, d.below(impl.CountOf(f)))
			}
			if got := substituted(t, f, to); !sameFunc(got, refSubstituted(f, to)) {
				t.Fatal(seed, to, got)
			}
		}
	}
}

func without(t *testing.T, f impl.Func, ids []int64) impl.Func {
	t.Helper()
	g, ok := impl.Without(f, ids)
	if !ok {
		t.Fatal(impl.ModuleText(alone(f)), ids)
	}
	return g
}

func TestWithoutByHand(t *testing.T) {
	text := "func 8 8 8\nblock\nconst 8 1\nadd 8 2 0\nprint 0 0\njump 1\nblock\nphi 8 0 6\nphi 8 7 1\nadd 8 5 3\nmul 8 6 7\nult 8 5 1\nbranch 9 1 2\nblock\nphi 8 5\nload 8 3\nsub 8 1 11\nret 10\n"
	m, ok := impl.ReadModule(text)
	if !ok {
		t.Fatal(text)
	}
	for _, r := range []struct {
		ids  []int64
		want string
	}{
		{nil, text},
		{[]int64{}, text},
		{[]int64{4}, "func 8 8 8\nblock\nconst 8 1\nadd 8 2 0\njump 1\nblock\nphi 8 0 5\nphi 8 6 1\nadd 8 4 3\nmul 8 5 6\nult 8 4 1\nbranch 8 1 2\nblock\nphi 8 4\nload 8 3\nsub 8 1 10\nret 9\n"},
		{[]int64{8}, "func 8 8 8\nblock\nconst 8 1\nadd 8 2 0\nprint 0 0\njump 1\nblock\nphi 8 0 6\nphi 8 7 1\nadd 8 5 3\nult 8 5 1\nbranch 8 1 2\nblock\nphi 8 5\nload 8 3\nsub 8 1 10\nret 9\n"},
		{[]int64{12}, "func 8 8 8\nblock\nconst 8 1\nadd 8 2 0\nprint 0 0\njump 1\nblock\nphi 8 0 6\nphi 8 7 1\nadd 8 5 3\nmul 8 6 7\nult 8 5 1\nbranch 9 1 2\nblock\nphi 8 5\nload 8 3\nret 10\n"},
		{[]int64{11, 12}, "func 8 8 8\nblock\nconst 8 1\nadd 8 2 0\nprint 0 0\njump 1\nblock\nphi 8 0 6\nphi 8 7 1\nadd 8 5 3\nmul 8 6 7\nult 8 5 1\nbranch 9 1 2\nblock\nphi 8 5\nret 10\n"},
		{[]int64{4, 8, 11, 12}, "func 8 8 8\nblock\nconst 8 1\nadd 8 2 0\njump 1\nblock\nphi 8 0 5\nphi 8 6 1\nadd 8 4 3\nult 8 4 1\nbranch 7 1 2\nblock\nphi 8 4\nret 8\n"},
	} {
		if got := impl.ModuleText(alone(without(t, m.Funcs[0], r.ids))); got != r.want {
			t.Errorf("%v: %q, not %q", r.ids, got, r.want)
		}
	}
	for _, ids := range [][]int64{
		{0}, {1}, {0, 4}, {1, 8}, {-1}, {-1, 4}, {13}, {4, 13}, {4, 4}, {8, 4}, {12, 11}, {4, 8, 8}, {4, 12, 11},
		{2}, {3}, {5}, {6}, {7}, {9}, {10}, {11}, {2, 3}, {6, 7}, {5, 6, 7, 8, 10}, {6, 8}, {7, 8}, {10, 11, 12},
	} {
		if g, ok := impl.Without(m.Funcs[0], ids); ok || !reflect.DeepEqual(g, impl.Func{}) {
			t.Error(ids, g)
		}
	}
}

// What goes may name what goes, also in a ring, and itself.
func TestWithoutOfRings(t *testing.T) {
	for text, r := range map[string]struct {
		ids  []int64
		want string
	}{
		"func 8\nblock\njump 1\nblock\nphi 8 1 1\nphi 8 0 0\njump 1\n":               {[]int64{0, 1}, "func 8\nblock\njump 1\nblock\njump 1\n"},
		"func 8\nblock\njump 1\nblock\nphi 8 0 0\nphi 8 1 1\njump 1\n":               {[]int64{0}, "func 8\nblock\njump 1\nblock\nphi 8 0 0\njump 1\n"},
		"func 8\nblock\ntrap\nblock\nadd 8 1 1\nadd 8 0 0\nconst 8 3\nret 2\n":       {[]int64{0, 1}, "func 8\nblock\ntrap\nblock\nconst 8 3\nret 0\n"},
		"func 8 8\nblock\ncall 8 0 1 2\nprint 0 1\ncall 8 0 3\nstore 0 1 3\nret 0\n": {[]int64{1, 2, 3, 4}, "func 8 8\nblock\nret 0\n"},
	} {
		m, ok := impl.ReadModule(text)
		if !ok {
			t.Fatal(text)
		}
		if got := impl.ModuleText(alone(without(t, m.Funcs[0], r.ids))); got != r.want {
			t.Errorf("%q: %q", text, got)
		}
	}
	// All of a function may go but its parameters, blocks and ends.
	f := counted(impl.MaxValues)
	if got := without(t, f, asItWas(f)); !sameFunc(got, counted(0)) {
		t.Error(got)
	}
}

func TestNotWithout(t *testing.T) {
	refused := func(name string, f impl.Func, ids []int64) {
		t.Helper()
		if g, ok := impl.Without(f, ids); ok || !reflect.DeepEqual(g, impl.Func{}) {
			t.Error(name, ids, g)
		}
	}
	for name, f := range formless() {
		refused(name, f, nil)
	}
	f := calledModule().Funcs[0]
	for _, id := range strangeIds(f) {
		refused("no id", f, []int64{id})
		refused("no id", f, []int64{6, id})
		refused("no id", f, []int64{id, 6})
	}
	refused("alike", f, []int64{6, 6})
	refused("falling", f, []int64{7, 6})
	refused("falling behind", f, []int64{6, 7, 7})
	// One that an end, a phi, or an instruction that stays names.
	refused("given", f, []int64{5})
	refused("comes in", f, []int64{8})
	refused("arg of a call", f, []int64{4, 6})
	without(t, f, []int64{6, 7})
	without(t, f, nil)
	// The room behind what is given is not asked.
	without(t, f, []int64{6, 5, 4}[:1])
}

// refWithout numbers by hand: a name is an old id, less those that went ahead
// of it.
func refWithout(f impl.Func, ids []int64) (impl.Func, bool) {
	goes := map[int64]bool{}
	for _, id := range ids {
		goes[id] = true
	}
	g := copyFunc(f)
	id := int64(len(f.Params))
	for b := range g.Blocks {
		var phis []impl.Phi
		for _, p := range g.Blocks[b].Phis {
			if !goes[id] {
				phis = append(phis, p)
			}
			id++
		}
		var insts []impl.Inst
		for _, i := range g.Blocks[b].Insts {
			if !goes[id] {
				insts = append(insts, i)
			}
			id++
		}
		g.Blocks[b].Phis, g.Blocks[b].Insts = phis, insts
	}
	ok := true
	eachNamed(&g, func(name *int64) {
		ok = ok && !goes[*name]
		less := int64(0)
		for x := range *name {
			if goes[x] {
				less++
			}
		}
		*name -= less
	})
	return g, ok
}

func TestWithoutAgainstOtherWays(t *testing.T) {
	d := &dice{seed: 9}
	right, wrong := 0, 0
	for seed := range uint64(300) {
		for _, f := range busyModule(seed).Funcs {
			for range 12 {
				var ids []int64
				rare := 2 + d.below(9)
				for id := int64(len(f.Params)); id < impl.CountOf(f); id++ {
					if d.below(rare) == 0 && (impl.Uses(f, id) == 0 || d.below(7) == 0) {
						ids = append(ids, id)
					}
				}
				got, ok := impl.Without(f, ids)
				want, may := refWithout(f, ids)
				if ok != may || ok && !sameFunc(got, want) || !ok && !reflect.DeepEqual(got, impl.Func{}) {
					t.Fatal(impl.ModuleText(alone(f)), ids, got, ok)
				}
				if ok {
					right++
				} else {
					wrong++
				}
			}
		}
	}
	if right < 500 || wrong < 500 {
		t.Error(right, wrong)
	}
}

// Without what nobody names and what does nothing all runs as it did.
func TestWithoutWhatNobodyNeedsAllRunsAsItDid(t *testing.T) {
	d := &dice{seed: 12}
	ran, gone := 0, 0
	for seed := range uint64(300) {
		m := busyModule(seed)
		var out impl.Module
		for _, f := range m.Funcs {
			var ids []int64
			for k, i := range instPlaces(&f) {
				id := idOfInst(f, k)
				if impl.Uses(f, id) == 0 && (i.Op < impl.OpUDiv || i.Op > impl.OpSRem) && (i.Op < impl.OpLoad || i.Op == impl.OpCopy) {
					ids = append(ids, id)
				}
			}
			gone += len(ids)
			out.Funcs = append(out.Funcs, without(t, f, ids))
		}
		if c := impl.Checked(out); c != impl.VfOk {
			t.Fatal(seed, c)
		}
		ran += runsAlike(t, m, out, d, false)
	}
	if ran < 500 || gone < 500 {
		t.Error(ran, gone)
	}
}

// idOfInst is the id of the k-th of all instructions.
func idOfInst(f impl.Func, k int) int64 {
	id := int64(len(f.Params))
	for _, b := range f.Blocks {
		id += int64(len(b.Phis))
		if k < len(b.Insts) {
			return id + int64(k)
		}
		k -= len(b.Insts)
		id += int64(len(b.Insts))
	}
	return -1
}

func TestRewritingWritesNothing(t *testing.T) {
	for _, p := range []pass{
		func(m impl.Module) (impl.Module, bool) {
			to := roomyList(asItWas(m.Funcs[0]))
			g, ok := impl.Substituted(m.Funcs[0], to)
			return alone(g), ok && !shareMemory(g, to) && sameList(to[:cap(to)], append(asItWas(m.Funcs[0]), 0, 0, 0, 0, 0))
		},
		func(m impl.Module) (impl.Module, bool) {
			var ids []int64
			for id := int64(len(m.Funcs[0].Params)); id < impl.CountOf(m.Funcs[0]); id++ {
				if impl.Uses(m.Funcs[0], id) == 0 {
					ids = append(ids, id)
				}
			}
			room := roomyList(ids)
			g, ok := impl.Without(m.Funcs[0], room)
			return alone(g), ok && !shareMemory(g, room) && sameList(room[:cap(room)], append(ids, 0, 0, 0, 0, 0))
		},
	} {
		writesNothing(t, p)
		if _, ok := p(busyModule(1)); !ok {
			t.Error("not made")
		}
	}
}
