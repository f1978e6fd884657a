package tests

import (
	"reflect"
	"runtime"
	"strings"
	"sync"
	"testing"
	"time"

	"loop.example/g00457/impl"
)

// readFunc is the first function of a text, in its form, but not right for
// all that.
func readFunc(t *testing.T, text string) impl.Func {
	t.Helper()
	m, ok := impl.ReadModule(text)
	if !ok {
		t.Fatalf("%q", text)
	}
	return m.Funcs[0]
}

func TestNeededByHand(t *testing.T) {
	for text, want := range map[string][]int64{
		"func 8\nblock\ntrap\n":                                       {},
		"func 8 8\nblock\ntrap\n":                                     {},
		"func 8 8 8\nblock\nret 1\n":                                  {1},
		"func 8 8\nblock\nconst 8 1\nadd 8 0 1\nret 0\n":              {0},
		"func 8 8\nblock\nconst 8 1\nadd 8 0 1\nret 2\n":              {0, 1, 2},
		"func 8 8 1\nblock\nbranch 1 1 2\nblock\ntrap\nblock\ntrap\n": {1},
		// Each that does something, and what it names.
		"func 8 32 8\nblock\nload 8 0\ntrap\n":                                      {0, 2},
		"func 8 32 8\nblock\nstore 0 0 1\ntrap\n":                                   {0, 1, 2},
		"func 8 32 8\nblock\nprint 0 1\ntrap\n":                                     {1, 2},
		"func 8 32 8 8\nblock\ncall 8 0 0 1 2\ntrap\n":                              {0, 1, 2, 3},
		"func 8 32 8\nblock\ncall 8 0\nconst 8 3\ncall 8 0 3 1\ntrap\n":             {1, 2, 3, 4},
		"func 8 8 1\nblock\nselect 8 1 0 0\ncopy 8 2\nzext 16 3\nprint 0 4\ntrap\n": {0, 1, 2, 3, 4, 5},
		// A chain, of which the end is needed, and one beside it.
		"func 8 8\nblock\nadd 8 0 0\nadd 8 1 1\nadd 8 1 1\nadd 8 3 3\nadd 8 2 2\nret 4\n": {0, 1, 3, 4},
		// Blocks that are not reached are asked, too.
		"func 8 8\nblock\ntrap\nblock\nadd 8 0 0\nret 1\nblock\nsub 8 0 0\nadd 8 2 2\nprint 0 2\ntrap\n": {0, 1, 2, 4},
		// Phis: a ring that nobody needs, one that a print needs, one that an end does.
		"func 8 8\nblock\njump 1\nblock\nphi 8 0 2\nphi 8 0 1\njump 1\n":                                 {},
		"func 8 8\nblock\njump 1\nblock\nphi 8 0 2\nphi 8 0 1\nprint 0 1\njump 1\n":                      {0, 1, 2, 3},
		"func 8 8 1\nblock\njump 1\nblock\nphi 1 1 3\nphi 1 1 2\nphi 8 0 4\nbranch 3 1 2\nblock\ntrap\n": {1, 2, 3},
		"func 8 8\nblock\njump 1\nblock\nphi 8 0 2\nadd 8 1 0\njump 1\n":                                 {},
		"func 8 8\nblock\njump 1\nblock\nphi 8 0 2\nudiv 8 1 0\njump 1\n":                                {0, 1, 2},
	} {
		if got := impl.Needed(readFunc(t, text)); !sameList(got, want) {
			t.Errorf("%q: %v, not %v", text, got, want)
		}
	}
}

// A division may end the run, unless it is by a constant that is not 0.
func TestNeededDivisions(t *testing.T) {
	for _, op := range []string{"udiv", "sdiv", "urem", "srem"} {
		for by, want := range map[string][]int64{
			" 8 1 2": {},        // by 1
			" 8 2 3": {},        // by 255
			" 8 0 1": {0, 1, 5}, // by 0
			" 8 2 1": {1, 2, 5}, // of a constant by 0
			" 8 2 0": {0, 2, 5}, // by a parameter
			" 8 2 4": {2, 4, 5}, // by a copy of a constant
			" 8 0 5": {0, 5},    // by itself
			" 8 5 5": {5},       // itself by itself
			" 8 5 2": {},        // itself by 1
		} {
			f := readFunc(t, "func 8 8\nblock\nconst 8 0\nconst 8 1\nconst 8 255\ncopy 8 2\n"+op+by+"\ntrap\n")
			if got := impl.Needed(f); !sameList(got, want) {
				t.Error(op, by, got, want)
			}
		}
	}
	for _, op := range []string{"add", "sub", "mul", "and", "or", "xor", "shl", "lshr", "ashr", "eq", "ne", "ult", "slt"} {
		if got := impl.Needed(readFunc(t, "func 8 8\nblock\nconst 8 0\n"+op+" 8 0 1\ntrap\n")); len(got) > 0 {
			t.Error(op, got)
		}
	}
}

// refNeeded goes round until nothing more is needed.
func refNeeded(f impl.Func) []int64 {
	is := make([]bool, impl.CountOf(f))
	names := make([][]int64, impl.CountOf(f))
	id := len(f.Params)
	for _, b := range f.Blocks {
		for _, p := range b.Phis {
			names[id] = p.Ins
			id++
		}
		for _, i := range b.Insts {
			names[id] = impl.OperandsOf(i)
			by, known := impl.ConstOf(f, i.B)
			is[id] = is[id] || i.Op >= impl.OpLoad && i.Op <= impl.OpCall || i.Op >= impl.OpUDiv && i.Op <= impl.OpSRem && !(known && by > 0)
			id++
		}
		if b.Term.Kind == impl.TmRet || b.Term.Kind == impl.TmBranch {
			is[b.Term.A] = true
		}
	}
	for range is {
		for id := range is {
			for _, x := range names[id] {
				is[x] = is[x] || is[id]
			}
		}
	}
	var l []int64
	for id := range is {
		if is[id] {
			l = append(l, int64(id))
		}
	}
	return l
}

func TestNeededAgainstOtherWays(t *testing.T) {
	d := &dice{seed: 41}
	for seed := range uint64(400) {
		m := busyModule(seed)
		if seed%2 == 1 {
			m = disturbed(m, d)
		}
		for _, f := range m.Funcs {
			var want []int64
			if impl.ShapeOk(impl.Module{Funcs: []impl.Func{f, counted(0), counted(0)}}) {
				want = refNeeded(f)
			}
			if got := impl.Needed(f); !sameList(got, want) {
				t.Fatal(impl.ModuleText(alone(f)), got, want)
			}
		}
	}
}

func TestNeededOfLimits(t *testing.T) {
	for name, f := range formless() {
		if l := impl.Needed(f); len(l) > 0 {
			t.Error(name, l)
		}
	}
	for name, m := range modulesAtLimits() {
		for _, f := range m.Funcs {
			if l := impl.Needed(f); !sameList(l, refNeeded(f)) {
				t.Error(name, l)
			}
		}
	}
	// All of as many as there may be, each by the next one.
	all := "func 8\nblock\n"
	for next := int64(1); next < impl.MaxValues; next++ {
		all += "copy 8" + refNumbers([]int64{next}) + "\n"
	}
	f := readFunc(t, all+"const 8 1\nret 0\n")
	if l := impl.Needed(f); !sameList(l, asItWas(f)) || len(l) != impl.MaxValues {
		t.Error(l)
	}
	// A call of a function that only another module has.
	far := readFunc(t, "func 8 8\nblock\ncall 8 0 0\ntrap\n")
	far.Blocks[0].Insts[0].Imm = impl.MaxFuncs - 1
	if l := impl.Needed(far); !sameList(l, []int64{0, 1}) {
		t.Error(l)
	}
}

func TestCleanedByHand(t *testing.T) {
	passesTo(t, impl.Cleaned, map[string]string{
		"func 8\nblock\ntrap\n": "func 8\nblock\ntrap\n",
		// Parameters stay, needed or not.
		"func 8 8 8 1\nblock\nadd 8 0 1\nret 1\n":                   "func 8 8 8 1\nblock\nret 1\n",
		"func 8 8\nblock\nconst 8 1\nconst 8 2\nadd 8 0 2\nret 3\n": "func 8 8\nblock\nconst 8 2\nadd 8 0 1\nret 2\n",
		// Divisions.
		"func 8 8\nblock\nconst 8 0\nconst 8 2\nudiv 8 0 1\nurem 8 0 2\nsdiv 8 2 0\nret 0\n": "func 8 8\nblock\nconst 8 0\nconst 8 2\nudiv 8 0 1\nsdiv 8 2 0\nret 0\n",
		// Blocks without anything left stay, and phis in rings go.
		"func 8 8\nblock\njump 1\nblock\nphi 8 0 2\nphi 8 0 1\nadd 8 1 2\njump 1\n": "func 8 8\nblock\njump 1\nblock\njump 1\n",
		"func 8 8\nblock\njump 1\nblock\nphi 8 0 2\nphi 8 0 2\nprint 0 2\njump 1\n": "func 8 8\nblock\njump 1\nblock\nphi 8 0 1\nprint 0 1\njump 1\n",
		// Where no run comes, too.
		"func 8 8\nblock\nret 0\nblock\nadd 8 2 2\nadd 8 1 1\nsub 8 0 0\nprint 0 3\njump 1\n": "func 8 8\nblock\nret 0\nblock\nsub 8 0 0\nprint 0 1\njump 1\n",
		// Function by function.
		"func 8 8\nblock\nadd 8 0 0\ncall 8 1 0\nret 0\nfunc 8 8\nblock\nsub 8 0 0\nadd 8 0 0\nret 2\n": "func 8 8\nblock\ncall 8 1 0\nret 0\nfunc 8 8\nblock\nadd 8 0 0\nret 1\n",
	})
}

// What is cleaned has nothing but parameters that is not needed, is right, and
// what is seen of its runs is what it was.
func TestWhatIsCleanedHasNothingThatIsNotNeeded(t *testing.T) {
	d := &dice{seed: 15}
	ran, gone := 0, int64(0)
	for seed := range uint64(500) {
		m := busyModule(seed)
		out, ok := impl.Cleaned(m)
		if !ok || impl.Checked(out) != impl.VfOk {
			t.Fatal(impl.ModuleText(m), ok, impl.Checked(out))
		}
		for k, f := range out.Funcs {
			needed := refNeeded(f)
			for id := int64(len(f.Params)); id < impl.CountOf(f); id++ {
				if !has(needed, id) {
					t.Fatal(impl.ModuleText(out), k, id)
				}
			}
			was := m.Funcs[k]
			if !sameList(f.Params, was.Params) || f.Ret != was.Ret || len(f.Blocks) != len(was.Blocks) {
				t.Fatal(impl.ModuleText(m), impl.ModuleText(out))
			}
			gone += impl.CountOf(was) - impl.CountOf(f)
		}
		again, ok := impl.Cleaned(out)
		if !ok || !sameModule(again, out) {
			t.Fatal(impl.ModuleText(out), impl.ModuleText(again))
		}
		ran += runsAlike(t, m, out, d, false)
	}
	if ran < 1000 || gone < 1000 {
		t.Error(ran, gone)
	}
}

func TestCleanedAgainstOtherWays(t *testing.T) {
	for seed := range uint64(300) {
		m := busyModule(seed)
		var want impl.Module
		for _, f := range m.Funcs {
			needed := refNeeded(f)
			var ids []int64
			for id := int64(len(f.Params)); id < impl.CountOf(f); id++ {
				if !has(needed, id) {
					ids = append(ids, id)
				}
			}
			g, _ := refWithout(f, ids)
			want.Funcs = append(want.Funcs, g)
		}
		if got, ok := impl.Cleaned(m); !ok || !sameModule(got, want) {
			t.Fatal(impl.ModuleText(m), impl.ModuleText(got))
		}
	}
}

// Divisions that fail still do, though nobody asks for what they give.
func TestCleanedDivisionsFail(t *testing.T) {
	for _, op := range []string{"udiv", "sdiv", "urem", "srem"} {
		text := "func 8 8\nblock\nconst 8 3\nadd 8 0 1\n" + op + " 8 1 0\nret 2\n"
		clean := passed(t, impl.Cleaned, text)
		runsTo(t, clean, []int64{0}, noughts(), 99, impl.Result{Code: impl.RsZero, Mem: noughts(), Steps: 3})
		runsTo(t, clean, []int64{2}, noughts(), 99, done(5, 4))
		text = "func 8 8\nblock\nconst 8 3\nadd 8 0 1\n" + op + " 8 0 1\nret 2\n"
		runsTo(t, passed(t, impl.Cleaned, text), []int64{2}, noughts(), 99, done(5, 3))
	}
}

func TestCopiesGoneByHand(t *testing.T) {
	passesTo(t, impl.CopiesGone, map[string]string{
		"func 8\nblock\ntrap\n": "func 8\nblock\ntrap\n",
		// Copies of copies, which stay where they stand.
		"func 8 8\nblock\ncopy 8 0\ncopy 8 1\ncopy 8 2\nadd 8 3 1\nret 3\n": "func 8 8\nblock\ncopy 8 0\ncopy 8 0\ncopy 8 0\nadd 8 0 0\nret 0\n",
		// In each thing that names an id.
		"func 8 8 32 1\nblock\ncopy 8 0\ncopy 32 1\ncopy 1 2\nselect 8 5 3 0\nstore 0 4 3\nload 8 4\nprint 0 5\ncall 8 0 3 4 5\nzext 16 3\nbranch 5 1 2\nblock\nphi 8 3\nphi 32 4\nret 3\nblock\ntrap\n": "func 8 8 32 1\nblock\ncopy 8 0\ncopy 32 1\ncopy 1 2\nselect 8 2 0 0\nstore 0 1 0\nload 8 1\nprint 0 2\ncall 8 0 0 1 2\nzext 16 0\nbranch 2 1 2\nblock\nphi 8 0\nphi 32 1\nret 0\nblock\ntrap\n",
		// Phis are no copies, and end a chain.
		"func 8 8\nblock\njump 1\nblock\nphi 8 0 2\ncopy 8 1\ncopy 8 2\nprint 0 3\njump 1\n": "func 8 8\nblock\njump 1\nblock\nphi 8 0 1\ncopy 8 1\ncopy 8 1\nprint 0 1\njump 1\n",
		// A block that runs later stands ahead of what it copies.
		"func 8\nblock\njump 2\nblock\ncopy 8 2\nret 0\nblock\nconst 8 5\ncopy 8 1\njump 1\n": "func 8\nblock\njump 2\nblock\ncopy 8 1\nret 1\nblock\nconst 8 5\ncopy 8 1\njump 1\n",
		// Function by function, each with its own ids.
		"func 8 8\nblock\ncopy 8 0\nret 1\nfunc 8 8\nblock\nconst 8 1\nret 1\n": "func 8 8\nblock\ncopy 8 0\nret 0\nfunc 8 8\nblock\nconst 8 1\nret 1\n",
		// Where no run comes a copy may be its own, or stand behind what names it.
		"func 8 8\nblock\nret 0\nblock\ncopy 8 1\nprint 0 1\njump 1\n":           "func 8 8\nblock\nret 0\nblock\ncopy 8 1\nprint 0 1\njump 1\n",
		"func 8 8\nblock\nret 0\nblock\nprint 0 2\ncopy 8 3\ncopy 8 0\njump 1\n": "func 8 8\nblock\nret 0\nblock\nprint 0 0\ncopy 8 0\ncopy 8 0\njump 1\n",
	})
}

// ringText has, where no run comes, a way in and then so many copies that go
// round, each copying the next one.
func ringText(in int64, round int64) string {
	text := "func 8\nblock\ntrap\nblock\n"
	for id := range in + round {
		next := id + 1
		if next == in+round {
			next = in
		}
		text += "copy 8" + refNumbers([]int64{next}) + "\n"
	}
	return text + "ret 0\n"
}

// Of copies in a ring the one is named to which as many steps lead as there
// may be ids.
func TestCopiesInARing(t *testing.T) {
	for in := int64(0); in < 4; in++ {
		for _, round := range []int64{1, 2, 3, 4, 5, 6, 7, 8, 9, 11, 13, 50, impl.MaxValues - in} {
			text := ringText(in, round)
			m := rightModule(t, text)
			want := copyModule(m)
			eachNamed(&want.Funcs[0], func(id *int64) {
				for range impl.MaxValues {
					*id = m.Funcs[0].Blocks[1].Insts[*id].A
				}
			})
			if got, ok := impl.CopiesGone(m); !ok || !sameModule(got, want) {
				t.Error(in, round, impl.ModuleText(got))
			}
		}
	}
	// By hand: 60 is 4 more than 8 times 7.
	if got := passed(t, impl.CopiesGone, ringText(0, 7)); !strings.HasSuffix(got, "ret 4\n") {
		t.Error(got)
	}
}

// The longest way through copies that a function has room for.
func TestLongestWayThroughCopies(t *testing.T) {
	text, want := "func 8 8\nblock\n", "func 8 8\nblock\n"
	for id := range int64(impl.MaxValues - 1) {
		text += "copy 8" + refNumbers([]int64{id}) + "\n"
		want += "copy 8 0\n"
	}
	passesTo(t, impl.CopiesGone, map[string]string{text + "ret 59\n": want + "ret 0\n"})
}

func TestWithoutCopiesAllRunsAsItDid(t *testing.T) {
	d := &dice{seed: 16}
	ran, all := 0, 0
	for seed := range uint64(500) {
		m := busyModule(seed)
		out, ok := impl.CopiesGone(m)
		if !ok || impl.Checked(out) != impl.VfOk {
			t.Fatal(impl.ModuleText(m), ok, impl.Checked(out))
		}
		ran += runsAlike(t, m, out, d, true)
		for k, f := range out.Funcs {
			if impl.CountOf(f) != impl.CountOf(m.Funcs[k]) {
				t.Fatal(seed, k)
			}
			if len(impl.Reached(f)) < len(f.Blocks) {
				continue
			}
			for at, i := range instPlaces(&f) {
				if i.Op != impl.OpCopy {
					continue
				}
				all++
				if impl.Uses(f, idOfInst(f, at)) > 0 {
					t.Fatal(impl.ModuleText(m), impl.ModuleText(out), k, at)
				}
			}
		}
	}
	if ran < 1000 || all < 500 {
		t.Error(ran, all)
	}
}

// refCopiesGone puts what is copied in the place of one copy after the other,
// until there is nothing to put: that ends where copies do not go round.
func refCopiesGone(f impl.Func) impl.Func {
	g := copyFunc(f)
	for range impl.MaxValues {
		for at, i := range instPlaces(&f) {
			if i.Op == impl.OpCopy {
				of := idOfInst(f, at)
				eachNamed(&g, func(id *int64) {
					if *id == of {
						*id = i.A
					}
				})
			}
		}
	}
	return g
}

func TestCopiesGoneAgainstOtherWays(t *testing.T) {
	asked := 0
	for seed := range uint64(200) {
		m := busyModule(seed)
		got, ok := impl.CopiesGone(m)
		if !ok {
			t.Fatal(seed)
		}
		for k, f := range m.Funcs {
			if len(impl.Reached(f)) == len(f.Blocks) {
				asked++
				if !sameFunc(got.Funcs[k], refCopiesGone(f)) {
					t.Fatal(impl.ModuleText(m), impl.ModuleText(got))
				}
			}
		}
	}
	if asked < 100 {
		t.Error(asked)
	}
}

func TestCleanedRefuses(t *testing.T) { refusesWrong(t, impl.Cleaned) }

func TestCopiesGoneRefuses(t *testing.T) { refusesWrong(t, impl.CopiesGone) }

func TestCleaningWritesNothing(t *testing.T) {
	writesNothing(t, impl.Cleaned)
	writesNothing(t, impl.CopiesGone)
	for seed := range uint64(40) {
		m := roomy(busyModule(seed))
		for _, f := range m.Funcs {
			a, b := impl.Needed(f), impl.Needed(f)
			if !sameList(a, b) || shareMemory(f, a, b) {
				t.Fatal(seed, a, b)
			}
		}
		if !reflect.DeepEqual(allOf(m), allOf(roomy(busyModule(seed)))) {
			t.Fatal(seed, "written into an argument")
		}
	}
}

// Nobody is left behind when a call answers, and many may ask at once.
func TestCleaningLeavesNobodyBehind(t *testing.T) {
	before := runtime.NumGoroutine()
	var all sync.WaitGroup
	for seed := range uint64(40) {
		m := busyModule(seed)
		want, _ := impl.Cleaned(m)
		for range 4 {
			all.Add(1)
			go func() {
				defer all.Done()
				if got, ok := impl.Cleaned(m); !ok || !sameModule(got, want) {
					t.Error(seed)
				}
			}()
		}
	}
	all.Wait()
	for range 200 {
		if runtime.NumGoroutine() <= before {
			return
		}
		time.Sleep(time.Millisecond)
	}
	t.Error(before, runtime.NumGoroutine())
}
