package tests

import (
	"math"
	"reflect"
	"testing"

	"loop.example/g00457/impl"
)

// A pass makes a module of a module that is right.
type pass func(m impl.Module) (impl.Module, bool)

// busyModule is a right module in which there is much to do: constants that
// are 0 and 1, operands that are alike, the same more than once, copies of
// copies. In blocks that are not reached copies may go round.
func busyModule(seed uint64) impl.Module {
	m := madeModule(seed)
	d := &dice{seed: seed ^ 0x5eed}
	for range 60 {
		x := copyModule(m)
		f := &x.Funcs[d.below(int64(len(x.Funcs)))]
		if makeBusy(f, d) && impl.Checked(x) == impl.VfOk {
			m = x
		}
	}
	return m
}

// instPlaces are where the instructions of a function stand.
func instPlaces(f *impl.Func) []*impl.Inst {
	var l []*impl.Inst
	for b := range f.Blocks {
		for k := range f.Blocks[b].Insts {
			l = append(l, &f.Blocks[b].Insts[k])
		}
	}
	return l
}

// ofWidth are the ids of a width that some id has.
func ofWidth(f impl.Func, w int64) []int64 {
	var l []int64
	for id := range impl.CountOf(f) {
		if impl.TypeOf(f, id) == w {
			l = append(l, id)
		}
	}
	return l
}

func makeBusy(f *impl.Func, d *dice) bool {
	all := instPlaces(f)
	i := all[d.below(int64(len(all)))]
	other := all[d.below(int64(len(all)))]
	w := i.W
	if i.Op <= impl.OpSLt {
		w = impl.ResultWidth(i.Op, i.W)
	}
	switch d.below(8) {
	case 0:
		*i = impl.Inst{Op: impl.OpConst, W: w, Imm: d.below(2)}
	case 1:
		*i = copyInst(*other)
	case 2:
		*i = copyInst(*other)
		i.A, i.B = i.B, i.A
	case 3, 6, 7:
		*i = impl.Inst{Op: impl.OpCopy, W: w, A: d.oneOf(ofWidth(*f, w))}
	case 4:
		i.B = i.A
	case 5:
		if i.Op > impl.OpSLt {
			return false
		}
		i.Op = 1 + d.below(impl.OpAShr)
	}
	return true
}

// runsAlike holds runs of what came of a module against runs of what was
// given, and tells how many there were: only those in which neither is out of
// fuel.
func runsAlike(t *testing.T, before impl.Module, after impl.Module, d *dice, steps bool) int {
	t.Helper()
	n := 0
	for _, c := range trialsOf(before, d) {
		was := c.run(impl.MaxFuel)
		is := impl.Invoked(after, c.k, c.args, c.mem, impl.MaxFuel)
		if was.Code == impl.RsFuel || is.Code == impl.RsFuel {
			if steps && !sameResult(was, is) {
				t.Fatal(impl.ModuleText(before), impl.ModuleText(after), c.k, c.args, was, is)
			}
			continue
		}
		if !steps {
			was, is = impl.Seen(was), impl.Seen(is)
		}
		if !sameResult(was, is) {
			t.Fatal(impl.ModuleText(before), impl.ModuleText(after), c.k, c.args, was, is)
		}
		n++
	}
	return n
}

// runsStepByStep asks that what comes of a pass is right, and makes the same
// steps.
func runsStepByStep(t *testing.T, p pass) {
	t.Helper()
	d := &dice{seed: 14}
	ran := 0
	for seed := range uint64(500) {
		m := busyModule(seed)
		out, ok := p(m)
		if !ok || impl.Checked(out) != impl.VfOk {
			t.Fatal(impl.ModuleText(m), ok, impl.Checked(out))
		}
		ran += runsAlike(t, m, out, d, true)
	}
	if ran < 1000 {
		t.Error(ran)
	}
}

// passed is what comes of a text, which has to be right, by a pass.
func passed(t *testing.T, p pass, text string) string {
	t.Helper()
	m, ok := p(rightModule(t, text))
	if !ok || impl.Checked(m) != impl.VfOk {
		t.Fatalf("%q: %t, %d", text, ok, impl.Checked(m))
	}
	return impl.ModuleText(m)
}

// passesTo holds what comes of texts against texts.
func passesTo(t *testing.T, p pass, texts map[string]string) {
	t.Helper()
	for text, want := range texts {
		if got := passed(t, p, text); got != want {
			t.Errorf("%q: %q, not %q", text, got, want)
		}
	}
}

// refusesWrong asks a pass for modules that are not right.
func refusesWrong(t *testing.T, p pass) {
	t.Helper()
	refused := func(name string, m impl.Module) {
		if out, ok := p(m); ok || len(out.Funcs) > 0 {
			t.Error(name, out, ok)
		}
	}
	for _, x := range faults() {
		m := calledModule()
		x.spoil(&m.Funcs[0])
		refused(x.name, m)
	}
	for name, m := range modulesPastLimits() {
		refused(name, m)
	}
	refused("nothing", impl.Module{})
	refused("no blocks", alone(impl.Func{Ret: 8}))
	// What stands ahead of the function that is not right is.
	m := calledModule()
	m.Funcs[1].Blocks[0].Term.A = 2
	refused("the last function", m)
	d := &dice{seed: 31}
	for seed := range uint64(200) {
		if m := disturbed(madeModule(seed), d); impl.Checked(m) != impl.VfOk {
			refused("disturbed", m)
		}
	}
}

// roomy is the same module with spare room behind each list.
func roomy(m impl.Module) impl.Module {
	var out impl.Module
	for _, f := range m.Funcs {
		g := impl.Func{Params: roomyList(f.Params), Ret: f.Ret}
		for _, b := range f.Blocks {
			c := impl.Block{Phis: make([]impl.Phi, 0, 70), Insts: make([]impl.Inst, 0, 70), Term: b.Term}
			for _, p := range b.Phis {
				c.Phis = append(c.Phis, impl.Phi{W: p.W, Ins: roomyList(p.Ins)})
			}
			for _, i := range b.Insts {
				i.Args = roomyList(i.Args)
				c.Insts = append(c.Insts, i)
			}
			g.Blocks = append(g.Blocks, c)
		}
		out.Funcs = append(out.Funcs, g)
	}
	return out
}

func roomyList(l []int64) []int64 { return append(make([]int64, 0, len(l)+5), l...) }

// allOf has what stands in the spare room of a module's lists, too.
func allOf(m impl.Module) impl.Module {
	out := impl.Module{}
	for _, f := range m.Funcs {
		g := impl.Func{Params: f.Params[:cap(f.Params)], Ret: f.Ret}
		for _, b := range f.Blocks {
			c := impl.Block{Phis: b.Phis[:cap(b.Phis)], Insts: b.Insts[:cap(b.Insts)], Term: b.Term}
			for k := range c.Phis {
				c.Phis[k].Ins = c.Phis[k].Ins[:cap(c.Phis[k].Ins)]
			}
			for k := range c.Insts {
				c.Insts[k].Args = c.Insts[k].Args[:cap(c.Insts[k].Args)]
			}
			g.Blocks = append(g.Blocks, c)
		}
		out.Funcs = append(out.Funcs, copyFunc(g))
	}
	return out
}

// writesNothing asks that what is given stays as it is, and that answers are
// the same, and new memory, each time.
func writesNothing(t *testing.T, p pass) {
	t.Helper()
	for seed := range uint64(60) {
		m := roomy(busyModule(seed))
		first, ok := p(m)
		second, again := p(m)
		if ok != again || !sameModule(first, second) {
			t.Fatal(seed, "not the same")
		}
		if shareMemory(m, first, second) {
			t.Fatal(seed, "shares memory")
		}
		if !reflect.DeepEqual(allOf(m), allOf(roomy(busyModule(seed)))) {
			t.Fatal(seed, "written into an argument")
		}
	}
}

func strangeIds(f impl.Func) []int64 {
	n := impl.CountOf(f)
	return []int64{math.MinInt64, -2, -1, n, n + 1, impl.MaxValues, math.MaxInt64}
}

// formless are functions that are not in their form.
func formless() map[string]impl.Func {
	out := map[string]impl.Func{"nothing": {}, "no blocks": {Ret: 8}, "no end": {Ret: 8, Blocks: []impl.Block{{}}}}
	for name, m := range modulesPastLimits() {
		for _, f := range m.Funcs {
			if !impl.ShapeOk(impl.Module{Funcs: []impl.Func{f, counted(0), counted(0)}}) {
				out[name] = f
			}
		}
	}
	for _, x := range faults() {
		if x.code == impl.VfShape {
			m := calledModule()
			x.spoil(&m.Funcs[0])
			out[x.name] = m.Funcs[0]
		}
	}
	far := calledModule().Funcs[0]
	far.Blocks[3].Insts[0].Imm = impl.MaxFuncs
	out["a call of a function too far"] = far
	return out
}

func TestBusyModulesAreBusy(t *testing.T) {
	copies, twice := 0, 0
	for seed := range uint64(100) {
		m := busyModule(seed)
		if c := impl.Checked(m); c != impl.VfOk {
			t.Fatal(seed, c)
		}
		for _, f := range m.Funcs {
			texts := map[string]int{}
			for _, i := range instPlaces(&f) {
				if texts[impl.InstText(*i)]++; texts[impl.InstText(*i)] == 2 {
					twice++
				}
				if i.Op == impl.OpCopy {
					copies++
				}
			}
		}
	}
	if copies < 200 || twice < 200 {
		t.Error(copies, twice)
	}
	if len(formless()) < 12 {
		t.Error(len(formless()))
	}
}
