package tests

import (
	"math"
	"reflect"
	"slices"
	"strings"
	"testing"

	"loop.example/g00457/impl"
)

// wants is an oracle of the first function that wants that, on a memory of
// noughts.
func wants(want impl.Result, args ...int64) impl.Oracle {
	return impl.Oracle{Args: args, Mem: noughts(), Want: want}
}

// toldText tells what it is given, stores it at 1, and gives it back.
func toldText() string {
	return "func 8 8\nblock\nconst 32 1\nstore 0 1 0\nprint 0 0\nret 0\n"
}

func toldResult(v int64) impl.Result {
	return impl.Result{Value: v, Out: []int64{v}, Mem: stored(noughts(), 1, v)}
}

func TestHoldsByHand(t *testing.T) {
	m := rightModule(t, toldText())
	if !impl.Holds(m, wants(toldResult(5), 5)) || impl.Holds(m, wants(toldResult(5), 6)) || impl.Holds(m, wants(toldResult(6), 5)) {
		t.Error("told")
	}
	// All but Steps.
	for _, steps := range []int64{math.MinInt64, -1, 0, 3, 4, 5, impl.MaxFuel, math.MaxInt64} {
		want := toldResult(5)
		want.Steps = steps
		if !impl.Holds(m, wants(want, 5)) {
			t.Error(steps)
		}
	}
}

func TestHoldsOfEachField(t *testing.T) {
	m := rightModule(t, toldText())
	for name, spoil := range map[string]func(r *impl.Result){
		"another code":         func(r *impl.Result) { r.Code = impl.RsTrap },
		"a code that is none":  func(r *impl.Result) { r.Code = -1 },
		"the code of no form":  func(r *impl.Result) { r.Code = impl.RsForm },
		"another value":        func(r *impl.Result) { r.Value++ },
		"another value by far": func(r *impl.Result) { r.Value += 256 },
		"another one told":     func(r *impl.Result) { r.Out[0]++ },
		"one more told":        func(r *impl.Result) { r.Out = append(r.Out, 0) },
		"told twice":           func(r *impl.Result) { r.Out = append(r.Out, r.Out[0]) },
		"none told":            func(r *impl.Result) { r.Out = nil },
		"another byte":         func(r *impl.Result) { r.Mem = stored(r.Mem, impl.MemSize-1, 1) },
		"nothing stored":       func(r *impl.Result) { r.Mem = noughts() },
		"a byte less":          func(r *impl.Result) { r.Mem = r.Mem[1:] },
		"a byte more":          func(r *impl.Result) { r.Mem += "\x00" },
		"no memory":            func(r *impl.Result) { r.Mem = "" },
		"nothing":              func(r *impl.Result) { *r = impl.Result{} },
	} {
		want := toldResult(5)
		spoil(&want)
		if impl.Holds(m, wants(want, 5)) {
			t.Error(name)
		}
	}
}

// An empty list and none are the same.
func TestHoldsWithNothingTold(t *testing.T) {
	m := rightModule(t, "func 8\nblock\nconst 8 3\nret 0\n")
	for _, out := range [][]int64{nil, {}, make([]int64, 0, 5)} {
		if !impl.Holds(m, wants(impl.Result{Value: 3, Out: out, Mem: noughts()})) {
			t.Error(out)
		}
	}
}

// What is not in its form does not hold, whatever is wanted.
func TestHoldsWithoutForm(t *testing.T) {
	m := rightModule(t, "func 8 8\nblock\nret 0\nfunc 8\nblock\nconst 8 2\nret 0\n")
	good := impl.Result{Value: 5, Mem: noughts()}
	refused := func(name string, m impl.Module, o impl.Oracle) {
		t.Helper()
		for _, want := range []impl.Result{good, {Code: impl.RsForm}, {}, {Code: impl.RsForm, Mem: noughts()}} {
			o.Want = want
			if impl.Holds(m, o) {
				t.Error(name, want)
			}
		}
	}
	if !impl.Holds(m, wants(good, 5)) {
		t.Error("it is right")
	}
	for _, k := range []int64{math.MinInt64, -1, 2, 3, math.MaxInt64} {
		refused("no such function", m, impl.Oracle{Func: k, Args: []int64{5}, Mem: noughts()})
	}
	for _, args := range [][]int64{nil, {5, 5}, {256}, {-1}, {math.MaxInt64}} {
		refused("args", m, impl.Oracle{Args: args, Mem: noughts()})
	}
	refused("args of another one", m, impl.Oracle{Func: 1, Args: []int64{5}, Mem: noughts()})
	for _, mem := range []string{"", noughts()[1:], noughts() + "\x00", strings.Repeat("\x00", 100000)} {
		refused("memory", m, impl.Oracle{Args: []int64{5}, Mem: mem})
	}
	for _, x := range faults() {
		m := calledModule()
		x.spoil(&m.Funcs[0])
		refused(x.name, m, impl.Oracle{Args: []int64{1, 1}, Mem: noughts()})
		refused(x.name, m, impl.Oracle{Func: 1, Args: []int64{1, 1}, Mem: noughts()})
	}
	for name, m := range modulesPastLimits() {
		refused(name, m, impl.Oracle{Mem: noughts()})
	}
}

// With just as much fuel as there may be.
func TestHoldsByItsFuel(t *testing.T) {
	// Two steps first, four for each time round, and two at the end.
	text := "func 16 16\nblock\nconst 16 1\njump 1\nblock\nphi 16 0 3\nsub 16 2 1\nconst 16 0\neq 16 3 4\nbranch 5 2 1\nblock\nprint 0 3\nret 3\n"
	told := impl.Result{Out: []int64{0}, Mem: noughts()}
	short := impl.Result{Code: impl.RsFuel, Mem: noughts()}
	for n, want := range map[int64]impl.Result{1: told, 498: told, 499: told, 500: short, 501: short, 0: short} {
		if !impl.Holds(rightModule(t, text), wants(want, n)) {
			t.Error(n, want)
		}
	}
	if r := impl.Invoked(rightModule(t, text), 0, []int64{499}, noughts(), impl.MaxFuel); r.Steps != impl.MaxFuel {
		t.Error(r)
	}
	// One step more: all is told, but nothing is given back.
	longer := strings.Replace(text, "ret 3", "copy 16 3\nret 3", 1)
	short.Out = []int64{0}
	if m := rightModule(t, longer); !impl.Holds(m, wants(short, 499)) || impl.Holds(m, wants(told, 499)) {
		t.Error(impl.Invoked(m, 0, []int64{499}, noughts(), impl.MaxFuel))
	}
}

func refHolds(m impl.Module, o impl.Oracle) bool {
	if impl.Checked(m) != impl.VfOk || o.Func < 0 || o.Func >= int64(len(m.Funcs)) || len(o.Mem) != impl.MemSize {
		return false
	}
	params := m.Funcs[o.Func].Params
	if len(params) != len(o.Args) {
		return false
	}
	for at, w := range params {
		if o.Args[at] < 0 || o.Args[at] > topOf(w) {
			return false
		}
	}
	got := refInvoked(m, o.Func, o.Args, o.Mem, impl.MaxFuel)
	got.Steps, o.Want.Steps = 0, 0
	return sameResult(got, o.Want)
}

// toldOracles are oracles of runs of a module, and of such that differ.
func toldOracles(m impl.Module, d *dice) []impl.Oracle {
	var l []impl.Oracle
	for _, c := range trialsOf(m, d) {
		o := impl.Oracle{Func: c.k, Args: c.args, Mem: c.mem, Want: impl.Seen(c.run(impl.MaxFuel))}
		switch d.below(6) {
		case 0:
			o.Want.Value ^= d.below(2)
		case 1:
			o.Want.Out = append(o.Want.Out, d.below(2))
		case 2:
			o.Want.Mem = stored(o.Want.Mem, d.below(impl.MemSize), d.below(256))
		case 3:
			o.Want.Steps = d.below(99)
		}
		l = append(l, o)
	}
	return l
}

func TestHoldsAgainstOtherWays(t *testing.T) {
	d := &dice{seed: 91}
	held, not := 0, 0
	for seed := range uint64(200) {
		m := madeModule(seed)
		for _, o := range toldOracles(m, d) {
			x := m
			if d.below(3) == 0 {
				x = disturbed(m, d)
			}
			got := impl.Holds(x, o)
			if got != refHolds(x, o) {
				t.Fatal(impl.ModuleText(x), o, got)
			}
			if got {
				held++
			} else {
				not++
			}
		}
	}
	if held < 200 || not < 200 {
		t.Error(held, not)
	}
}

// rowOf has a module that holds, by rowOracle, where there is a 1, and one that
// does not where there is a 0.
func rowOf(holds string) []impl.Module {
	good := impl.Func{Params: []int64{8}, Ret: 8, Blocks: []impl.Block{{Term: retOf(0)}}}
	bad := impl.Func{Params: []int64{8}, Ret: 8, Blocks: []impl.Block{{Term: trapEnd()}}}
	var l []impl.Module
	for k := range len(holds) {
		switch {
		case holds[k] == '1':
			l = append(l, alone(copyFunc(good)))
		case k%5 == 4:
			l = append(l, impl.Module{}) // One that is not right does not hold.
		default:
			l = append(l, alone(copyFunc(bad)))
		}
	}
	return l
}

func rowOracle() impl.Oracle { return wants(impl.Result{Value: 5, Mem: noughts()}, 5) }

func TestFirstBadByHand(t *testing.T) {
	ones, bads := strings.Repeat("1", 100), strings.Repeat("0", 100)
	for _, x := range []struct {
		holds     string
		at, asked int64
	}{
		{"", -1, 1}, {"1", -1, 1}, {"0", -1, 1},
		// The first does not hold, whatever the last does.
		{"00", -1, 1}, {"01", -1, 1}, {"011", -1, 1}, {"010", -1, 1}, {"0" + ones[1:], -1, 1}, {bads, -1, 1},
		// The last holds.
		{"11", -1, 2}, {"111", -1, 2}, {"101", -1, 2}, {ones, -1, 2}, {"1" + bads[2:] + "1", -1, 2},
		// Two, of which nobody else is asked.
		{"10", 1, 2},
		{"110", 2, 3}, {"100", 1, 3},
		{"1110", 3, 4}, {"1100", 2, 4}, {"1000", 1, 3},
		{"11110", 4, 4}, {"11100", 3, 4}, {"11000", 2, 4}, {"10000", 1, 4},
		// Bad ones that are not all behind the good ones: not the first of all.
		{"1010", 1, 3}, {"10110", 4, 4}, {"11010", 2, 4}, {"1011110", 6, 5}, {"10100", 3, 4}, {"1101110", 6, 5},
		{ones[:99] + "0", 99, 9}, {"1" + bads[1:], 1, 8}, {ones[:50] + bads[:50], 50, 8}, {ones[:49] + bads[:51], 49, 9},
		// Too many.
		{ones + "0", -1, 1}, {"1" + bads, -1, 1}, {ones + "1", -1, 1}, {strings.Repeat(ones, 20) + "0", -1, 1},
	} {
		if at, asked := impl.FirstBad(rowOf(x.holds), rowOracle()); at != x.at || asked != x.asked {
			t.Errorf("%q: %d %d, not %d %d", x.holds, at, asked, x.at, x.asked)
		}
	}
}

// refFirstBad goes down into one half after the other.
func refFirstBad(holds string) (int64, int64) {
	n := len(holds)
	if n < 2 || n > 100 || holds[0] == '0' {
		return -1, 1
	}
	if holds[n-1] == '1' {
		return -1, 2
	}
	var half func(low int, high int) (int64, int64)
	half = func(low int, high int) (int64, int64) {
		if high == low+1 {
			return int64(high), 2
		}
		at, asked := int64(0), int64(0)
		if holds[(low+high)/2] == '1' {
			at, asked = half((low+high)/2, high)
		} else {
			at, asked = half(low, (low+high)/2)
		}
		return at, asked + 1
	}
	return half(0, n-1)
}

func firstBadIs(t *testing.T, holds string) {
	t.Helper()
	want, wantAsked := refFirstBad(holds)
	at, asked := impl.FirstBad(rowOf(holds), rowOracle())
	if at != want || asked != wantAsked {
		t.Fatalf("%q: %d %d, not %d %d", holds, at, asked, want, wantAsked)
	}
	// What is found does not hold, and what stands ahead of it does.
	if at >= 0 && (holds[at] != '0' || holds[at-1] != '1') {
		t.Fatalf("%q: %d", holds, at)
	}
}

func TestFirstBadOfAllRows(t *testing.T) {
	for n := range 10 {
		for bits := range 1 << n {
			var row []byte
			for k := range n {
				row = append(row, '0'+byte(bits>>k&1))
			}
			firstBadIs(t, string(row))
		}
	}
}

func TestFirstBadOfLongRows(t *testing.T) {
	d := &dice{seed: 92}
	for _, n := range []int{2, 3, 50, 64, 65, 99, 100, 101} {
		for good := range n + 1 {
			firstBadIs(t, strings.Repeat("1", good)+strings.Repeat("0", n-good))
		}
		for range 30 {
			row := []byte{'1'}
			for range n - 2 {
				row = append(row, '0'+byte(d.below(2)))
			}
			firstBadIs(t, string(append(row, '0')))
		}
	}
}

// Where nothing can hold, the first does not.
func TestFirstBadWithoutForm(t *testing.T) {
	o := rowOracle()
	o.Mem = ""
	if at, asked := impl.FirstBad(rowOf("1110"), o); at != -1 || asked != 1 {
		t.Error(at, asked)
	}
	if at, asked := impl.FirstBad(make([]impl.Module, 5), impl.Oracle{}); at != -1 || asked != 1 {
		t.Error(at, asked)
	}
}

// Where a pass stops holding: what comes of each is asked for.
func TestFirstBadOfPasses(t *testing.T) {
	m := rightModule(t, toldText())
	o := wants(toldResult(5), 5)
	row := []impl.Module{m}
	for p := int64(impl.PsFold); p <= impl.PsSplit; p++ {
		next, ok := impl.RunPass(row[len(row)-1], p)
		if !ok {
			t.Fatal(p)
		}
		row = append(row, next)
	}
	if at, asked := impl.FirstBad(row, o); at != -1 || asked != 2 {
		t.Error(at, asked)
	}
	for at := 6; at < len(row); at++ {
		row[at] = rightModule(t, "func 8 8\nblock\nret 0\n")
	}
	if at, asked := impl.FirstBad(row, o); at != 6 || asked != 5 {
		t.Error(at, asked)
	}
}

func TestUnitsByHand(t *testing.T) {
	for text, want := range map[string][]int64{
		"func 8\nblock\ntrap\n":                                              nil,
		"func 8 8 32\nblock\nret 0\n":                                        nil,
		"func 8 8 32\nblock\nload 8 1\ncall 8 0 0 1\nret 2\n":                nil,
		"func 8 8 32\nblock\nstore 0 1 0\nret 0\n":                           {2},
		"func 8 8 32\nblock\nprint 0 1\nret 0\n":                             {2},
		"func 8\nblock\nconst 8 1\nprint 0 0\nprint 0 0\nprint 0 0\nret 0\n": {1, 2, 3},
		"func 8 8 32\nblock\nload 8 1\nstore 0 1 2\nadd 8 0 2\nprint 0 4\ncopy 8 4\ncall 8 0 4 1\nstore 0 1 7\nret 7\n": {3, 5, 8},
		// In several blocks, behind phis, and where no run comes.
		"func 8 8 32\nblock\nprint 0 0\njump 1\nblock\nphi 8 0\nprint 0 3\njump 2\nblock\nret 0\nblock\nphi 8\nstore 0 1 0\nprint 0 5\ntrap\n": {2, 4, 6, 7},
		// In its form, but not right.
		"func 8 8\nblock\nprint 0 1\nstore 0 0 0\nret 2\n":  {1, 2},
		"func 8 8\nblock\nphi 8 0\nprint 0 1\njump 0\n":     {2},
		"func 8 8\nblock\ncall 8 0 0 0\nprint 0 2\nret 0\n": {2},
	} {
		if got := impl.UnitsOf(readFunc(t, text)); !sameList(got, want) {
			t.Errorf("%q: %v, not %v", text, got, want)
		}
	}
}

func TestNoUnits(t *testing.T) {
	telling := 0
	for name, f := range formless() {
		if l := impl.UnitsOf(f); len(l) > 0 {
			t.Error(name, l)
		}
		if len(f.Blocks) == 0 {
			continue
		}
		// One id more may make it one that is in its form.
		f = copyFunc(f)
		f.Blocks[0].Insts = append(f.Blocks[0].Insts, impl.Inst{Op: impl.OpPrint})
		if l := impl.UnitsOf(f); !sameList(l, refUnits(f)) {
			t.Error(name, l)
		}
		if len(refUnits(f)) == 0 {
			telling++
		}
	}
	if telling < 12 {
		t.Error(telling)
	}
	// As many as there may be, and one more.
	f := impl.Func{Params: []int64{8}, Ret: 8, Blocks: []impl.Block{{Term: retOf(0)}}}
	for n := range impl.MaxValues {
		if l := impl.UnitsOf(f); len(l) != n || n > 0 && l[n-1] != int64(n) {
			t.Error(n, l)
		}
		f.Blocks[0].Insts = append(f.Blocks[0].Insts, impl.Inst{Op: impl.OpPrint})
	}
	if l := impl.UnitsOf(f); len(l) > 0 {
		t.Error(l)
	}
	// A call of a function that only another module has is in its form.
	for imm, want := range map[int64][]int64{0: {2}, impl.MaxFuncs - 1: {2}, impl.MaxFuncs: nil, -1: nil} {
		f := readFunc(t, "func 8 8\nblock\ncall 8 0 0\nprint 0 1\nret 1\n")
		f.Blocks[0].Insts[0].Imm = imm
		if l := impl.UnitsOf(f); !sameList(l, want) {
			t.Error(imm, l)
		}
	}
}

func refUnits(f impl.Func) []int64 {
	if !impl.ShapeOk(impl.Module{Funcs: []impl.Func{f, counted(0), counted(0)}}) {
		return nil
	}
	var l []int64
	for at, i := range instPlaces(&f) {
		if i.Op == impl.OpStore || i.Op == impl.OpPrint {
			l = append(l, idOfInst(f, at))
		}
	}
	return l
}

func TestUnitsAgainstOtherWays(t *testing.T) {
	d := &dice{seed: 93}
	some := 0
	for n, m := range graphModules(200) {
		if n%4 > 1 {
			m = disturbed(m, d)
		}
		for _, f := range m.Funcs {
			got := impl.UnitsOf(f)
			if !sameList(got, refUnits(f)) {
				t.Fatal(impl.ModuleText(alone(f)), got)
			}
			some += bitOfLen(got)
		}
	}
	if some < 200 {
		t.Error(some)
	}
}

func bitOfLen(l []int64) int { return min(1, len(l)) }

// shrinksTo asks for what is left of a text, which has to be right.
func shrinksTo(t *testing.T, text string, o impl.Oracle, want string) {
	t.Helper()
	m, ok := impl.Shrunk(rightModule(t, text), o)
	if !ok || impl.ModuleText(m) != want {
		t.Errorf("%q: %t %q, not %q", text, ok, impl.ModuleText(m), want)
	}
}

func isShrunkNoMore(t *testing.T, name any, m impl.Module, o impl.Oracle) {
	t.Helper()
	if out, ok := impl.Shrunk(m, o); ok || !reflect.DeepEqual(out, impl.Module{}) {
		t.Error(name, ok, out)
	}
}

func TestShrunkByHand(t *testing.T) {
	silent := wants(impl.Result{Value: 5, Mem: noughts()}, 5)
	// Nothing holds but what tells and stores nothing: the last one stays, and
	// what it names.
	shrinksTo(t, "func 8 8\nblock\nconst 8 9\nprint 0 1\nprint 0 0\nret 0\n", silent, "func 8 8\nblock\nprint 0 0\nret 0\n")
	shrinksTo(t, "func 8 8\nblock\nconst 8 9\nprint 0 0\nprint 0 1\nret 0\n", silent, "func 8 8\nblock\nconst 8 9\nprint 0 1\nret 0\n")
	shrinksTo(t, "func 8 8\nblock\nconst 8 9\nprint 0 1\nconst 32 3\nstore 0 3 0\nret 0\n", silent, "func 8 8\nblock\nconst 32 3\nstore 0 1 0\nret 0\n")
	// A store that changes nothing goes, so the one ahead of it stays.
	shrinksTo(t, "func 8 8\nblock\nconst 8 0\nconst 32 3\nstore 0 2 0\nconst 32 4\nstore 0 4 1\nret 0\n", silent, "func 8 8\nblock\nconst 32 3\nstore 0 1 0\nret 0\n")
	// What is not needed goes, whatever holds.
	shrinksTo(t, "func 8 8\nblock\nadd 8 0 0\ncopy 8 1\ntrap\n", silent, "func 8 8\nblock\ntrap\n")
	// Without units that matter all of them go.
	shrinksTo(t, "func 8 8\nblock\nprint 0 0\nadd 8 0 0\nprint 0 2\nret 2\n", silent, "func 8 8\nblock\nadd 8 0 0\nret 1\n")
	shrinksTo(t, "func 8 8\nblock\nprint 0 0\nprint 0 0\ntrap\n", silent, "func 8 8\nblock\ntrap\n")
	// Where no run comes.
	shrinksTo(t, "func 8 8\nblock\nprint 0 0\nret 0\nblock\nprint 0 0\nprint 0 0\ntrap\n", silent, "func 8 8\nblock\nprint 0 0\nret 0\nblock\ntrap\n")
	// An id that is named behind a unit is numbered anew.
	shrinksTo(t, "func 8 8\nblock\nprint 0 0\nconst 8 0\nadd 8 0 2\nprint 0 3\nret 3\n", silent, "func 8 8\nblock\nconst 8 0\nadd 8 0 1\nprint 0 2\nret 2\n")
}

// One that must stay at first goes when another one is gone.
func TestShrunkBeginsAgain(t *testing.T) {
	text := "func 8 8 8\nblock\nprint 0 0\nprint 0 1\nret 0\n"
	// Without the first one just what is wanted is told.
	second := impl.Result{Value: 1, Out: []int64{2}, Mem: noughts()}
	shrinksTo(t, text, wants(second, 1, 2), "func 8 8 8\nblock\nret 0\n")
	first := impl.Result{Value: 1, Out: []int64{1}, Mem: noughts()}
	shrinksTo(t, text, wants(first, 1, 2), "func 8 8 8\nblock\nret 0\n")
	// Two that are alike: each of them must stay.
	shrinksTo(t, text, wants(first, 1, 1), "func 8 8 8\nblock\nprint 0 0\nprint 0 1\nret 0\n")
	shrinksTo(t, "func 8 8 8\nblock\nprint 0 1\nprint 0 0\nprint 0 0\nret 0\n", wants(first, 1, 2), "func 8 8 8\nblock\nprint 0 0\nprint 0 0\nret 0\n")
	// From the front: of these both that are alike are gone before the last.
	shrinksTo(t, "func 8 8 8\nblock\nprint 0 0\nprint 0 0\nprint 0 1\nret 0\n", wants(first, 1, 2), "func 8 8 8\nblock\nret 0\n")
}

// One more than may be told: none of them may go.
func TestShrunkWhereAllMustStay(t *testing.T) {
	full := "func 8 8\nblock\n" + strings.Repeat("print 0 0\n", impl.MaxOut+1) + "ret 0\n"
	o := wants(impl.Result{Value: 7, Out: slices.Repeat([]int64{7}, impl.MaxOut), Mem: noughts()}, 7)
	shrinksTo(t, full, o, full)
	more := "func 8 8\nblock\n" + strings.Repeat("print 0 0\n", impl.MaxOut+9) + "ret 0\n"
	shrinksTo(t, more, o, full)
}

func TestShrunkFunctionByFunction(t *testing.T) {
	silent := wants(impl.Result{Value: 5, Mem: noughts()}, 5)
	// What is called tells first, but the last function's unit stays.
	shrinksTo(t, "func 8 8\nblock\ncall 8 1 0\nprint 0 1\nret 1\nfunc 8 8\nblock\nprint 0 0\nret 0\n", silent, "func 8 8\nblock\ncall 8 1 0\nret 1\nfunc 8 8\nblock\nprint 0 0\nret 0\n")
	// One that is not called tells nothing.
	shrinksTo(t, "func 8 8\nblock\nprint 0 0\nret 0\nfunc 8 8\nblock\nprint 0 0\nret 0\n", silent, "func 8 8\nblock\nprint 0 0\nret 0\nfunc 8 8\nblock\nret 0\n")
	shrinksTo(t, "func 8 8\nblock\nprint 0 0\ncall 8 2 0\nret 2\nfunc 8 8\nblock\nprint 0 0\nprint 0 0\nret 0\nfunc 8 8\nblock\nprint 0 0\nprint 0 0\nret 0\n", silent, "func 8 8\nblock\ncall 8 2 0\nret 1\nfunc 8 8\nblock\nret 0\nfunc 8 8\nblock\nprint 0 0\nret 0\n")
	// The oracle may ask for another function.
	o := silent
	o.Func = 1
	shrinksTo(t, "func 8 8\nblock\nprint 0 0\nret 0\nfunc 8 8\nblock\nprint 0 0\nret 0\n", o, "func 8 8\nblock\nret 0\nfunc 8 8\nblock\nprint 0 0\nret 0\n")
}

// slowText goes round as often as it is given, with steps that nobody needs,
// and then tells what it is given, and 0.
func slowText() string {
	return "func 8 8\nblock\nconst 8 1\nconst 8 0\njump 1\nblock\nphi 8 0 4\nsub 8 3 1\n" + strings.Repeat("add 8 4 1\n", 20) + "eq 8 4 2\nbranch 25 2 1\nblock\nprint 0 0\nprint 0 2\nret 2\n"
}

// Cleaned it holds, as then there is fuel enough: nothing is taken away.
func TestShrunkThatHoldsWhenItIsCleaned(t *testing.T) {
	m := rightModule(t, slowText())
	o := wants(impl.Result{Out: []int64{200, 0}, Mem: noughts()}, 200)
	cleaned, _ := impl.Cleaned(m)
	if impl.Holds(m, o) || !impl.Holds(cleaned, o) {
		t.Fatal(impl.Invoked(m, 0, o.Args, o.Mem, impl.MaxFuel), impl.Invoked(cleaned, 0, o.Args, o.Mem, impl.MaxFuel))
	}
	shrinksTo(t, slowText(), o, slowText())
	out, _ := impl.Shrunk(m, o)
	if shareMemory(m, out) {
		t.Error("shares memory")
	}
	// With less to do it holds as it is.
	isShrunkNoMore(t, "holds", m, wants(impl.Result{Out: []int64{50, 0}, Mem: noughts()}, 50))
	// Where another thing is wanted, what is cleaned is shrunk.
	o.Want.Out = []int64{200}
	shrinksTo(t, slowText(), o, "func 8 8\nblock\nconst 8 1\nconst 8 0\njump 1\nblock\nphi 8 0 4\nsub 8 3 1\neq 8 4 2\nbranch 5 2 1\nblock\nret 2\n")
	// Out of fuel is what is wanted, and is no more when it is cleaned.
	isShrunkNoMore(t, "out of fuel", m, wants(impl.Result{Code: impl.RsFuel, Mem: noughts()}, 200))
}

func TestShrunkRefuses(t *testing.T) {
	o := wants(impl.Result{Value: 5, Mem: noughts()}, 5)
	refusesWrong(t, func(m impl.Module) (impl.Module, bool) { return impl.Shrunk(m, o) })
	refusesWrong(t, func(m impl.Module) (impl.Module, bool) { return impl.Shrunk(m, impl.Oracle{}) })
	m := rightModule(t, "func 8 8\nblock\nret 0\n")
	isShrunkNoMore(t, "holds", m, o)
	isShrunkNoMore(t, "holds with what is not needed", rightModule(t, "func 8 8\nblock\nadd 8 0 0\nret 0\n"), o)
	isShrunkNoMore(t, "tells", rightModule(t, toldText()), wants(toldResult(9), 9))
}

// What cannot be asked never holds, so all units go.
func TestShrunkWithoutForm(t *testing.T) {
	for _, o := range []impl.Oracle{
		{},
		{Func: 1, Args: []int64{5}, Mem: noughts()},
		{Func: -1, Args: []int64{5}, Mem: noughts()},
		{Args: []int64{256}, Mem: noughts(), Want: toldResult(5)},
		{Args: []int64{5, 5}, Mem: noughts(), Want: toldResult(5)},
		{Args: []int64{5}, Mem: noughts()[1:], Want: toldResult(5)},
		{Args: []int64{5}, Mem: noughts(), Want: impl.Result{Code: impl.RsForm}},
	} {
		shrinksTo(t, toldText(), o, "func 8 8\nblock\nret 0\n")
	}
}

// refShrunk makes each module anew from the ids that are left.
func refShrunk(m impl.Module, o impl.Oracle) (impl.Module, bool) {
	if impl.Checked(m) != impl.VfOk || refHolds(m, o) {
		return impl.Module{}, false
	}
	now := refCleaned(m)
	if refHolds(now, o) {
		return m, true
	}
	for {
		next, found := now, false
		for k := len(now.Funcs) - 1; k >= 0; k-- {
			units := refUnits(now.Funcs[k])
			slices.Reverse(units)
			for _, id := range units {
				less := copyModule(now)
				less.Funcs[k], _ = refWithout(now.Funcs[k], []int64{id})
				if less = refCleaned(less); !refHolds(less, o) {
					next, found = less, true
				}
			}
		}
		if !found {
			return now, true
		}
		now = next
	}
}

func refCleaned(m impl.Module) impl.Module {
	var out impl.Module
	for _, f := range m.Funcs {
		needed := refNeeded(f)
		var gone []int64
		for id := int64(len(f.Params)); id < impl.CountOf(f); id++ {
			if !has(needed, id) {
				gone = append(gone, id)
			}
		}
		g, _ := refWithout(f, gone)
		out.Funcs = append(out.Funcs, g)
	}
	return out
}

// unitModule is a right module with many units: some of its instructions tell
// or store.
func unitModule(seed uint64) impl.Module {
	m := madeModule(seed)
	d := &dice{seed: seed ^ 0x717}
	for range 40 {
		x := copyModule(m)
		f := &x.Funcs[d.below(int64(len(x.Funcs)))]
		i := instPlaces(f)[d.below(int64(len(instPlaces(f))))]
		if d.below(3) == 0 {
			*i = impl.Inst{Op: impl.OpStore, A: d.below(impl.CountOf(*f)), B: d.below(impl.CountOf(*f))}
		} else {
			*i = impl.Inst{Op: impl.OpPrint, A: d.below(impl.CountOf(*f))}
		}
		if impl.Checked(x) == impl.VfOk {
			m = x
		}
	}
	return m
}

// lessOracle wants what is seen of a module without some of its units: what
// has all of them does not hold, as a rule.
func lessOracle(m impl.Module, d *dice) impl.Oracle {
	less := copyModule(m)
	for k, f := range m.Funcs {
		var gone []int64
		for _, id := range impl.UnitsOf(f) {
			if d.below(3) == 0 {
				gone = append(gone, id)
			}
		}
		less.Funcs[k], _ = impl.Without(f, gone)
	}
	trials := trialsOf(less, d)
	c := trials[d.below(int64(len(trials)))]
	return impl.Oracle{Func: c.k, Args: c.args, Mem: c.mem, Want: c.run(impl.MaxFuel)}
}

func TestShrunkAgainstOtherWays(t *testing.T) {
	d := &dice{seed: 94}
	held, shrunk, kept := 0, 0, 0
	for seed := range uint64(120) {
		m := unitModule(seed)
		for range 3 {
			o := lessOracle(m, d)
			want, is := refShrunk(m, o)
			got, ok := impl.Shrunk(m, o)
			if ok != is || !sameModule(got, want) {
				t.Fatal(impl.ModuleText(m), o, ok, is, impl.ModuleText(got), impl.ModuleText(want))
			}
			if !ok {
				held++
				continue
			}
			if !sameModule(got, m) {
				shrunk++
			}
			for _, f := range got.Funcs {
				kept += bitOfLen(impl.UnitsOf(f))
			}
		}
	}
	if held < 20 || shrunk < 100 || kept < 10 {
		t.Error(held, shrunk, kept)
	}
}

// What is shrunk still does not hold, and without one more thing it would.
func TestWhatIsShrunkDoesNotHold(t *testing.T) {
	d := &dice{seed: 95}
	left := 0
	for seed := range uint64(300) {
		m := unitModule(seed)
		o := lessOracle(m, d)
		if d.below(2) == 0 {
			o.Want.Out, o.Want.Mem = nil, o.Mem
		}
		out, ok := impl.Shrunk(m, o)
		if ok == impl.Holds(m, o) {
			t.Fatal(seed, ok)
		}
		if !ok {
			continue
		}
		if impl.Checked(out) != impl.VfOk || impl.Holds(out, o) {
			t.Fatal(impl.ModuleText(m), o, impl.ModuleText(out))
		}
		left += holdsWithoutEach(t, out, o)
	}
	if left < 30 {
		t.Error(left)
	}
}

// holdsWithoutEach tells how many units there are.
func holdsWithoutEach(t *testing.T, m impl.Module, o impl.Oracle) int {
	t.Helper()
	n := 0
	for k, f := range m.Funcs {
		for _, id := range impl.UnitsOf(f) {
			less := copyModule(m)
			var ok bool
			if less.Funcs[k], ok = impl.Without(f, []int64{id}); !ok {
				t.Fatal(k, id)
			}
			less, ok = impl.Cleaned(less)
			if cleaned, _ := impl.Cleaned(m); impl.Holds(cleaned, o) {
				continue // All of m was kept.
			}
			if !ok || !impl.Holds(less, o) {
				t.Fatal(impl.ModuleText(m), o, k, id)
			}
			n++
		}
	}
	return n
}

// As many units as there may be, in all functions.
func TestShrunkAtLimits(t *testing.T) {
	f := impl.Func{Params: []int64{8}, Ret: 8, Blocks: []impl.Block{{Term: retOf(0)}}}
	for range impl.MaxValues - 1 {
		f.Blocks[0].Insts = append(f.Blocks[0].Insts, impl.Inst{Op: impl.OpPrint})
	}
	m := repeated(f, impl.MaxFuncs)
	bare := impl.Func{Params: []int64{8}, Ret: 8, Blocks: []impl.Block{{Term: retOf(0)}}}
	out, ok := impl.Shrunk(m, wants(impl.Result{Value: 4, Mem: noughts()}, 3))
	if !ok || !sameModule(out, repeated(bare, impl.MaxFuncs)) {
		t.Error(ok, impl.ModuleText(out))
	}
	out, ok = impl.Shrunk(m, wants(impl.Result{Value: 3, Mem: noughts()}, 3))
	want := repeated(bare, impl.MaxFuncs)
	want.Funcs[0].Blocks = []impl.Block{{Insts: []impl.Inst{{Op: impl.OpPrint}}, Term: retOf(0)}}
	if !ok || !sameModule(out, want) {
		t.Error(ok, impl.ModuleText(out))
	}
}

func roomyOracle(o impl.Oracle) impl.Oracle {
	o.Args, o.Want.Out = roomyList(o.Args), roomyList(o.Want.Out)
	return o
}

func allOfOracle(o impl.Oracle) impl.Oracle {
	o.Args, o.Want.Out = o.Args[:cap(o.Args)], o.Want.Out[:cap(o.Want.Out)]
	return o
}

func TestShrinkingWritesNothing(t *testing.T) {
	d := &dice{seed: 96}
	for seed := range uint64(60) {
		m := roomy(unitModule(seed))
		o := roomyOracle(lessOracle(m, d))
		was := roomyOracle(o)
		row := []impl.Module{m, roomy(madeModule(seed)), m, m}
		first, ok := impl.Shrunk(m, o)
		second, again := impl.Shrunk(m, o)
		if ok != again || !sameModule(first, second) || shareMemory(m, o, first, second) {
			t.Fatal(seed, ok, again)
		}
		for _, f := range m.Funcs {
			a, b := impl.UnitsOf(f), impl.UnitsOf(f)
			if !sameList(a, b) || shareMemory(f, a, b) {
				t.Fatal(seed, a, b)
			}
		}
		at, asked := impl.FirstBad(row, o)
		atNow, askedNow := impl.FirstBad(row, o)
		if at != atNow || asked != askedNow || impl.Holds(m, o) != impl.Holds(m, o) {
			t.Fatal(seed)
		}
		if !reflect.DeepEqual(allOf(m), allOf(roomy(unitModule(seed)))) || !reflect.DeepEqual(allOfOracle(o), allOfOracle(was)) {
			t.Fatal(seed, "written into an argument")
		}
	}
}
