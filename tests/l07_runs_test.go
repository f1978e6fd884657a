package tests

import (
	"math"
	"reflect"
	"strings"
	"testing"

	"loop.example/g00457/impl"
)

// noughts is a memory in which nothing was stored.
func noughts() string { return strings.Repeat("\x00", impl.MemSize) }

// countedMem has another byte at each place.
func countedMem() string {
	var l []byte
	for k := range impl.MemSize {
		l = append(l, byte(3*k+160))
	}
	return string(l)
}

// stored is mem with v at that place.
func stored(mem string, at int64, v int64) string {
	return mem[:at] + string([]byte{byte(v)}) + mem[at+1:]
}

// rightModule is what a text says, which has to be right.
func rightModule(t *testing.T, text string) impl.Module {
	t.Helper()
	m, ok := impl.ReadModule(text)
	if !ok || impl.Checked(m) != impl.VfOk {
		t.Fatalf("%q %t %d", text, ok, impl.Checked(m))
	}
	return m
}

func sameResult(a, b impl.Result) bool {
	return a.Code == b.Code && a.Value == b.Value && sameList(a.Out, b.Out) && a.Mem == b.Mem && a.Steps == b.Steps
}

// runsTo asks for a run of the first function of that text, and all of what it
// leaves.
func runsTo(t *testing.T, text string, args []int64, mem string, fuel int64, want impl.Result) {
	t.Helper()
	if got := impl.Invoked(rightModule(t, text), 0, args, mem, fuel); !sameResult(got, want) {
		t.Errorf("%q %v %d: %#v, not %#v", text, args, fuel, got, want)
	}
}

func isFormAlone(r impl.Result) bool {
	return sameResult(r, impl.Result{Code: impl.RsForm})
}

func done(value int64, steps int64) impl.Result {
	return impl.Result{Value: value, Mem: noughts(), Steps: steps}
}

func TestEachOpInARun(t *testing.T) {
	for op := int64(impl.OpAdd); op <= impl.OpSLt; op++ {
		for _, w := range widths() {
			f := impl.Func{Params: []int64{w, w}, Ret: impl.ResultWidth(op, w), Blocks: []impl.Block{{
				Insts: []impl.Inst{{Op: op, W: w, A: 0, B: 1}},
				Term:  retOf(2),
			}}}
			for _, a := range edgesOf(w) {
				for _, b := range edgesOf(w) {
					v, code := impl.Binary(op, w, a, b)
					want := done(v, 2)
					if code == impl.BnZero {
						want = impl.Result{Code: impl.RsZero, Mem: noughts(), Steps: 1}
					}
					if got := impl.Invoked(alone(f), 0, []int64{a, b}, noughts(), 10); !sameResult(got, want) {
						t.Fatal(op, w, a, b, got)
					}
				}
			}
		}
	}
}

func TestOpsInARunByHand(t *testing.T) {
	two := func(ret string, line string) string { return "func " + ret + " 8 8\nblock\n" + line + "\nret 2\n" }
	for line, want := range map[string]int64{
		"add 8 0 1": 44, "sub 8 0 1": 100, "mul 8 0 1": 32, "udiv 8 0 1": 2, "sdiv 8 0 1": 0, "urem 8 0 1": 0, "srem 8 0 1": 200,
		"and 8 0 1": 64, "or 8 0 1": 236, "xor 8 0 1": 172, "shl 8 0 1": 0, "lshr 8 0 1": 0, "ashr 8 0 1": 255, "sub 8 1 0": 156,
		"udiv 8 1 0": 0, "sdiv 8 1 0": 255, "urem 8 1 0": 100, "srem 8 1 0": 44, "copy 8 0": 200, "copy 8 1": 100, "const 8 7": 7,
	} {
		runsTo(t, two("8", line), []int64{200, 100}, noughts(), 9, done(want, 2))
	}
	for line, want := range map[string]int64{
		"eq 8 0 1": 0, "eq 8 0 0": 1, "ne 8 0 1": 1, "ne 8 1 1": 0, "ult 8 0 1": 0, "ult 8 1 0": 1, "slt 8 0 1": 1, "slt 8 1 0": 0, "trunc 1 0": 0,
	} {
		runsTo(t, two("1", line), []int64{200, 100}, noughts(), 9, done(want, 2))
	}
	for line, want := range map[string]int64{"zext 16 0": 200, "sext 16 0": 65480, "sext 16 1": 100, "const 16 65535": 65535} {
		runsTo(t, two("16", line), []int64{200, 100}, noughts(), 9, done(want, 2))
	}
}

func TestCastsInARun(t *testing.T) {
	for op := int64(impl.OpZext); op <= impl.OpTrunc; op++ {
		for _, from := range widths() {
			for _, to := range widths() {
				if (op == impl.OpTrunc) != (to < from) || from == to {
					continue
				}
				// The parameter ahead of it has another width.
				f := impl.Func{Params: []int64{to, from}, Ret: to, Blocks: []impl.Block{{
					Insts: []impl.Inst{{Op: op, W: to, A: 1}},
					Term:  retOf(2),
				}}}
				for _, v := range edgesOf(from) {
					want, _ := impl.Casted(op, from, to, v)
					if got := impl.Invoked(alone(f), 0, []int64{1, v}, noughts(), 10); !sameResult(got, done(want, 2)) {
						t.Fatal(op, from, to, v, got)
					}
				}
			}
		}
	}
}

func TestSelectConstCopyInARun(t *testing.T) {
	choose := "func 32 1 32 32\nblock\nselect 32 0 1 2\ncopy 32 3\nret 4\n"
	runsTo(t, choose, []int64{1, 70000, 5}, noughts(), 9, done(70000, 3))
	runsTo(t, choose, []int64{0, 70000, 5}, noughts(), 9, done(5, 3))
	bits := "func 1 1 1\nblock\nselect 1 0 1 0\nret 2\n"
	runsTo(t, bits, []int64{1, 0}, noughts(), 9, done(0, 2))
	runsTo(t, bits, []int64{0, 1}, noughts(), 9, done(0, 2))
	runsTo(t, bits, []int64{1, 1}, noughts(), 9, done(1, 2))
	runsTo(t, "func 32\nblock\nconst 32 4294967295\nret 0\n", nil, noughts(), 9, done(impl.MaxConst, 2))
	runsTo(t, "func 1\nblock\nconst 1 0\nret 0\n", nil, noughts(), 9, done(0, 2))
}

func TestEachEndInARun(t *testing.T) {
	ways := "func 8 1\nblock\nconst 8 10\nbranch 0 1 2\nblock\nconst 8 20\njump 3\nblock\nconst 8 30\nret 3\nblock\nret 2\n"
	runsTo(t, ways, []int64{1}, noughts(), 9, done(20, 5))
	runsTo(t, ways, []int64{0}, noughts(), 9, done(30, 4))
	runsTo(t, "func 8 8\nblock\nret 0\n", []int64{9}, noughts(), 9, done(9, 1))
	runsTo(t, "func 8 8\nblock\ntrap\n", []int64{9}, noughts(), 9, impl.Result{Code: impl.RsTrap, Mem: noughts(), Steps: 1})
	runsTo(t, "func 8 8\nblock\njump 2\nblock\ntrap\nblock\nret 0\n", []int64{9}, noughts(), 9, done(9, 2))
}

// swapText turns n times, in a loop, what it was given around, and tells both.
func swapText() string {
	return "func 8 8 8 8\nblock\nconst 8 1\nconst 8 0\njump 1\nblock\nphi 8 0 6\nphi 8 1 5\nphi 8 2 9\nne 8 7 4\nsub 8 7 3\nbranch 8 2 3\nblock\njump 1\nblock\nprint 0 5\nprint 0 6\nret 5\n"
}

func TestPhisThatNameEachOther(t *testing.T) {
	for n := int64(0); n < 9; n++ {
		want := impl.Result{Value: 7, Out: []int64{7, 9}, Mem: noughts(), Steps: 3 + 3*(n+1) + n + 3}
		if n%2 == 1 {
			want.Value, want.Out = 9, []int64{9, 7}
		}
		runsTo(t, swapText(), []int64{7, 9, n}, noughts(), 100, want)
	}
	// Three in a ring, the last of them first: each is what another one was.
	ring := "func 8 8 8 8\nblock\njump 1\nblock\nphi 8 0 4\nphi 8 1 5\nphi 8 2 3\nprint 0 3\nprint 0 4\nprint 0 5\njump 1\n"
	r := impl.Invoked(rightModule(t, ring), 0, []int64{1, 2, 3}, noughts(), 100)
	if r.Code != impl.RsFull || !sameList(r.Out[:12], []int64{1, 2, 3, 2, 3, 1, 3, 1, 2, 1, 2, 3}) {
		t.Error(r)
	}
	back := strings.Replace(ring, "phi 8 0 4\nphi 8 1 5\nphi 8 2 3\n", "phi 8 0 5\nphi 8 1 3\nphi 8 2 4\n", 1)
	r = impl.Invoked(rightModule(t, back), 0, []int64{1, 2, 3}, noughts(), 100)
	if r.Code != impl.RsFull || !sameList(r.Out[:12], []int64{1, 2, 3, 3, 1, 2, 2, 3, 1, 1, 2, 3}) {
		t.Error(r)
	}
	// One that names itself stays what it was.
	stays := strings.Replace(ring, "phi 8 0 4\nphi 8 1 5\nphi 8 2 3\n", "phi 8 0 3\nphi 8 1 3\nphi 8 2 4\n", 1)
	r = impl.Invoked(rightModule(t, stays), 0, []int64{1, 2, 3}, noughts(), 100)
	if r.Code != impl.RsFull || !sameList(r.Out[:12], []int64{1, 2, 3, 1, 1, 2, 1, 1, 1, 1, 1, 1}) {
		t.Error(r)
	}
}

// Phis have theirs in the order of the blocks that lead to them, not in that
// in which these are come to; blocks that are not reached have theirs, too.
func TestPhisTakeTheirOwn(t *testing.T) {
	text := "func 8 8 1\nblock\nconst 8 1\nconst 8 2\nconst 8 3\nbranch 1 4 2\nblock\nphi 8 4 3 2\nret 5\nblock\njump 1\nblock\njump 1\nblock\njump 1\n"
	runsTo(t, text, []int64{9, 1}, noughts(), 20, done(1, 6))
	runsTo(t, text, []int64{9, 0}, noughts(), 20, done(3, 6))
	runsTo(t, strings.Replace(text, "phi 8 4 3 2", "phi 8 2 4 3", 1), []int64{9, 1}, noughts(), 20, done(2, 6))
}

func TestEachCodeAndWhatStandsBesideIt(t *testing.T) {
	ahead := "const 32 5\nconst 8 77\nstore 0 1 2\nprint 0 2\nprint 0 1\n"
	mem := countedMem()
	left := impl.Result{Out: []int64{77, 5}, Mem: stored(mem, 5, 77)}
	for _, c := range []struct {
		text  string
		code  int64
		value int64
		steps int64
	}{
		{"ret 2\n", impl.RsDone, 77, 6},
		{"trap\n", impl.RsTrap, 0, 6},
		{"const 8 0\nudiv 8 2 6\nret 2\n", impl.RsZero, 0, 7},
		{"const 8 0\nsdiv 8 2 6\nret 2\n", impl.RsZero, 0, 7},
		{"const 8 0\nurem 8 2 6\nret 2\n", impl.RsZero, 0, 7},
		{"const 8 0\nsrem 8 2 6\nret 2\n", impl.RsZero, 0, 7},
		{"const 32 32\nload 8 6\nret 7\n", impl.RsBounds, 0, 7},
		{"const 32 4294967295\nload 8 6\nret 7\n", impl.RsBounds, 0, 7},
		{"const 32 32\nstore 0 6 2\nret 2\n", impl.RsBounds, 0, 7},
		{"const 32 4294967295\nstore 0 6 2\nret 2\n", impl.RsBounds, 0, 7},
		{"jump 1\nblock\njump 1\n", impl.RsFuel, 0, 200},
	} {
		want := left
		want.Code, want.Value, want.Steps = c.code, c.value, c.steps
		runsTo(t, "func 8 8\nblock\n"+ahead+c.text, []int64{1}, mem, 200, want)
	}
	// Those of a function that is called end all, and leave what both left.
	for _, c := range []struct {
		text  string
		code  int64
		steps int64
	}{
		{"trap\n", impl.RsTrap, 9},
		{"const 8 0\nudiv 8 0 1\nret 0\n", impl.RsZero, 10},
		{"const 32 32\nload 8 1\nret 0\n", impl.RsBounds, 10},
		{"jump 1\nblock\njump 1\n", impl.RsFuel, 200},
	} {
		text := "func 8 8\nblock\n" + ahead + "call 8 1 2\nprint 0 6\nret 6\nfunc 8 8\nblock\nprint 0 0\nprint 0 0\n" + c.text
		text = strings.NewReplacer("load 8 1", "load 8 3", "udiv 8 0 1", "udiv 8 0 3").Replace(text)
		want := impl.Result{Code: c.code, Out: []int64{77, 5, 77, 77}, Mem: left.Mem, Steps: c.steps}
		runsTo(t, text, []int64{1}, mem, 200, want)
	}
}

func TestFuel(t *testing.T) {
	text := "func 8 8\nblock\nconst 32 3\nstore 0 1 0\nprint 0 0\nload 8 1\nadd 8 4 4\nret 5\n"
	mem := noughts()
	with := stored(mem, 3, 9)
	for fuel, want := range []impl.Result{
		{Code: impl.RsFuel, Mem: mem},
		{Code: impl.RsFuel, Mem: mem, Steps: 1},
		{Code: impl.RsFuel, Mem: with, Steps: 2},
		{Code: impl.RsFuel, Out: []int64{9}, Mem: with, Steps: 3},
		{Code: impl.RsFuel, Out: []int64{9}, Mem: with, Steps: 4},
		{Code: impl.RsFuel, Out: []int64{9}, Mem: with, Steps: 5},
		{Value: 18, Out: []int64{9}, Mem: with, Steps: 6},
		{Value: 18, Out: []int64{9}, Mem: with, Steps: 6},
	} {
		runsTo(t, text, []int64{9}, mem, int64(fuel), want)
	}
	runsTo(t, text, []int64{9}, mem, impl.MaxFuel, impl.Result{Value: 18, Out: []int64{9}, Mem: with, Steps: 6})
	for _, fuel := range []int64{-1, impl.MaxFuel + 1, math.MinInt64, math.MaxInt64} {
		runsTo(t, text, []int64{9}, mem, fuel, impl.Result{Code: impl.RsForm})
	}
	runsTo(t, "func 8 8\nblock\njump 1\nblock\njump 1\n", []int64{9}, mem, impl.MaxFuel, impl.Result{Code: impl.RsFuel, Mem: mem, Steps: impl.MaxFuel})
}

// What would end a run in another way is not come to without fuel for it.
func TestFuelComesFirst(t *testing.T) {
	for text, code := range map[string]int64{
		"trap\n":                         impl.RsTrap,
		"const 8 0\nudiv 8 0 1\nret 0\n": impl.RsZero,
		"const 32 32\nload 8 1\nret 0\n": impl.RsBounds,
		strings.Repeat("print 0 0\n", impl.MaxOut+1) + "ret 0\n": impl.RsFull,
		"call 8 0 0\nret 1\n": impl.RsDeep,
		"ret 0\n":             impl.RsDone,
	} {
		m := rightModule(t, "func 8 8\nblock\n"+text)
		enough := impl.Invoked(m, 0, []int64{4}, noughts(), impl.MaxFuel)
		if enough.Code != code {
			t.Errorf("%q %v", text, enough)
		}
		if got := impl.Invoked(m, 0, []int64{4}, noughts(), enough.Steps); !sameResult(got, enough) {
			t.Errorf("%q %v %v", text, got, enough)
		}
		if got := impl.Invoked(m, 0, []int64{4}, noughts(), enough.Steps-1); got.Code != impl.RsFuel || got.Value != 0 || got.Steps != enough.Steps-1 {
			t.Errorf("%q %v", text, got)
		}
	}
}

// A run as long as fuel may be: with one step more than that it is cut.
func TestRunsAsLongAsFuel(t *testing.T) {
	text := "func 16 16 16\nblock\njump 1\nblock\nphi 16 0 3\nsub 16 2 1\nult 16 2 3\nbranch 4 2 1\nblock\nret 2\n"
	m := rightModule(t, text)
	// It comes 666 times to the loop's three steps; the blocks around it have one each.
	most := []int64{665 * 3, 3}
	if r := impl.Invoked(m, 0, most, noughts(), impl.MaxFuel); !sameResult(r, done(0, impl.MaxFuel)) {
		t.Error(r)
	}
	short := impl.Result{Code: impl.RsFuel, Mem: noughts(), Steps: impl.MaxFuel - 1}
	if r := impl.Invoked(m, 0, most, noughts(), impl.MaxFuel-1); !sameResult(r, short) {
		t.Error(r)
	}
	short.Steps++
	if r := impl.Invoked(m, 0, []int64{666 * 3, 3}, noughts(), impl.MaxFuel); !sameResult(r, short) {
		t.Error(r)
	}
}

func TestMemoryAtItsEnds(t *testing.T) {
	load := "func 8 32\nblock\nload 8 0\nret 1\n"
	store := "func 8 32 8\nblock\nstore 0 0 1\nload 8 0\nret 3\n"
	mem := countedMem()
	for at := range int64(impl.MemSize) {
		runsTo(t, load, []int64{at}, mem, 9, impl.Result{Value: int64(mem[at]), Mem: mem, Steps: 2})
		for _, v := range []int64{0, 1, 127, 128, 255} {
			runsTo(t, store, []int64{at, v}, mem, 9, impl.Result{Value: v, Mem: stored(mem, at, v), Steps: 3})
		}
	}
	for _, at := range []int64{impl.MemSize, impl.MemSize + 1, 64, 256, 1 << 31, impl.MaxConst} {
		runsTo(t, load, []int64{at}, mem, 9, impl.Result{Code: impl.RsBounds, Mem: mem, Steps: 1})
		runsTo(t, store, []int64{at, 5}, mem, 9, impl.Result{Code: impl.RsBounds, Mem: mem, Steps: 1})
	}
}

// What is stored is loaded, whoever has stored it, and the last one counts.
func TestWhatIsStoredIsLoaded(t *testing.T) {
	text := "func 8 32 8\nblock\ncall 8 1 0 1\nload 8 0\nadd 8 3 1\nstore 0 0 4\ncall 8 2 0\nret 6\n" +
		"func 8 32 8\nblock\nstore 0 0 1\nload 8 0\nret 1\n" +
		"func 8 32\nblock\nload 8 0\nret 1\n"
	for at := int64(0); at < impl.MemSize; at += 31 {
		want := impl.Result{Value: 84, Mem: stored(countedMem(), at, 84), Steps: 11}
		runsTo(t, text, []int64{at, 42}, countedMem(), 99, want)
	}
	later := "func 8 32 8 8\nblock\nstore 0 0 1\nstore 0 0 2\nload 8 0\nret 5\n"
	runsTo(t, later, []int64{3, 1, 2}, countedMem(), 99, impl.Result{Value: 2, Mem: stored(countedMem(), 3, 2), Steps: 4})
}

func TestNumbersThatAreTold(t *testing.T) {
	text := func(n int) string { return "func 8 8\nblock\n" + strings.Repeat("print 0 0\n", n) + "ret 0\n" }
	var out []int64
	for n := range impl.MaxOut + 1 {
		runsTo(t, text(n), []int64{200}, noughts(), 99, impl.Result{Value: 200, Out: out, Mem: noughts(), Steps: int64(n) + 1})
		out = append(out, 200)
	}
	full := impl.Result{Code: impl.RsFull, Out: out[:impl.MaxOut], Mem: noughts(), Steps: impl.MaxOut + 1}
	runsTo(t, text(impl.MaxOut+1), []int64{200}, noughts(), 99, full)
	// All told numbers count, also those of the functions that are called.
	called := "func 8 8\nblock\n" + strings.Repeat("print 0 0\n", impl.MaxOut-1) + "call 8 1 0\nprint 0 0\nret 0\nfunc 8 8\nblock\nprint 0 0\nret 0\n"
	full.Steps = impl.MaxOut + 3
	runsTo(t, called, []int64{200}, noughts(), 99, full)
	// They are told as they are, of each width.
	wide := "func 8 1 8 16 32\nblock\nprint 0 3\nprint 0 2\nprint 0 1\nprint 0 0\nret 1\n"
	runsTo(t, wide, []int64{1, 255, 65535, impl.MaxConst}, noughts(), 99, impl.Result{Value: 255, Out: []int64{impl.MaxConst, 65535, 255, 1}, Mem: noughts(), Steps: 5})
}

// fallText calls itself until what it was given is 0: so many functions more
// than one run at once. It tells all of what it is given, and on its way back.
func fallText() string {
	return "func 8 8\nblock\nconst 8 0\nprint 0 0\neq 8 0 1\nbranch 3 1 2\nblock\nret 0\nblock\nconst 8 1\nsub 8 0 4\ncall 8 0 5\nadd 8 6 4\nprint 0 7\nret 7\n"
}

func TestDepth(t *testing.T) {
	for n := int64(0); n < impl.MaxDepth; n++ {
		var out []int64
		for k := n; k >= 0; k-- {
			out = append(out, k)
		}
		for k := int64(1); k <= n; k++ {
			out = append(out, k)
		}
		runsTo(t, fallText(), []int64{n}, noughts(), 999, impl.Result{Value: n, Out: out, Mem: noughts(), Steps: 10*n + 5})
	}
	deep := impl.Result{Code: impl.RsDeep, Out: []int64{6, 5, 4, 3, 2, 1}, Mem: noughts(), Steps: 7 * impl.MaxDepth}
	runsTo(t, fallText(), []int64{impl.MaxDepth}, noughts(), 999, deep)
	deep.Out = []int64{255, 254, 253, 252, 251, 250}
	runsTo(t, fallText(), []int64{255}, noughts(), 999, deep)
	// Those that are done do not run any more: many calls one behind the other are not deep.
	row := "func 8 8\nblock\n" + strings.Repeat("call 8 1 0\n", 20) + "ret 20\nfunc 8 8\nblock\nadd 8 0 0\nret 1\n"
	runsTo(t, row, []int64{5}, noughts(), 999, done(10, 61))
	// Two that call each other count both.
	pair := "func 8 8\nblock\ncall 8 1 0\nret 1\nfunc 8 8\nblock\nprint 0 0\ncall 8 0 0\nret 2\n"
	runsTo(t, pair, []int64{5}, noughts(), 999, impl.Result{Code: impl.RsDeep, Out: []int64{5, 5, 5}, Mem: noughts(), Steps: 9})
}

// Each function that runs has its own values, in each of its runs.
func TestCallsKeepTheirValues(t *testing.T) {
	text := "func 8 8 8\nblock\nsub 8 0 1\ncall 8 1 1 0\ncall 8 1 2 3\nprint 0 3\nprint 0 2\nret 4\nfunc 8 8 8\nblock\nprint 0 0\nadd 8 0 0\nsub 8 3 1\nret 4\n"
	// The first call gives 2 * 3 - 10, the second 2 * 7 less that.
	runsTo(t, text, []int64{10, 3}, noughts(), 99, impl.Result{Value: 18, Out: []int64{3, 7, 252, 7}, Mem: noughts(), Steps: 14})
	// Args come in their order, and an id may be named twice.
	twice := "func 32 32\nblock\nconst 32 9\nconst 1 1\nconst 16 500\ncall 32 1 2 3 0 0\nret 4\nfunc 32 1 16 32 32\nblock\nzext 32 1\nselect 32 0 4 2\nadd 32 5 3\nret 6\n"
	runsTo(t, twice, []int64{7}, noughts(), 99, done(507, 9))
	// Loops in what is called do not turn the loop that calls.
	loops := "func 8 8\nblock\nconst 8 0\nconst 8 1\njump 1\nblock\nphi 8 0 6\nphi 8 1 8\ncall 8 1 3\nsub 8 3 2\nne 8 6 1\nadd 8 4 5\nbranch 7 2 3\nblock\njump 1\nblock\nret 8\n"
	// 1 + (1 + 2) + .. + (1 + .. + 5)
	runsTo(t, loops+sumText(), []int64{5}, noughts(), 999, done(35, 3+5*5+4+(5*6+5*15)+1))
}

// sumText adds up all numbers to the one that is given.
func sumText() string {
	return "func 8 8\nblock\nconst 8 0\nconst 8 1\njump 1\nblock\nphi 8 0 6\nphi 8 1 7\nne 8 3 1\nbranch 5 2 3\nblock\nsub 8 3 2\nadd 8 4 3\njump 1\nblock\nret 4\n"
}

func TestArgsOfRuns(t *testing.T) {
	for _, w := range widths() {
		text := "func " + strings.TrimPrefix(refNumbers([]int64{w, w}), " ") + "\nblock\nret 0\n"
		for _, v := range edgesOf(w) {
			runsTo(t, text, []int64{v}, noughts(), 9, done(v, 1))
		}
		for _, v := range strangeValues(w) {
			runsTo(t, text, []int64{v}, noughts(), 9, impl.Result{Code: impl.RsForm})
		}
		for _, l := range [][]int64{nil, {}, {1, 1}, {0, 0, 0, 0, 0}} {
			runsTo(t, text, l, noughts(), 9, impl.Result{Code: impl.RsForm})
		}
	}
	all := "func 8 1 8 16 32\nblock\nret 1\n"
	right := []int64{1, 255, 65535, impl.MaxConst}
	runsTo(t, all, right, noughts(), 9, done(255, 1))
	for at := range right {
		for _, v := range []int64{-1, right[at] + 1} {
			l := copyList(right)
			l[at] = v
			runsTo(t, all, l, noughts(), 9, impl.Result{Code: impl.RsForm})
		}
		runsTo(t, all, right[:at], noughts(), 9, impl.Result{Code: impl.RsForm})
	}
	runsTo(t, all, append(copyList(right), 0), noughts(), 9, impl.Result{Code: impl.RsForm})
	none := "func 8\nblock\nconst 8 3\nret 0\n"
	runsTo(t, none, nil, noughts(), 9, done(3, 2))
	runsTo(t, none, []int64{}, noughts(), 9, done(3, 2))
	runsTo(t, none, []int64{0}, noughts(), 9, impl.Result{Code: impl.RsForm})
}

func TestMemoryOfRuns(t *testing.T) {
	text := "func 8\nblock\nconst 8 3\nret 0\n"
	for _, n := range []int{0, 1, 31, 33, 64, 100000} {
		runsTo(t, text, nil, strings.Repeat("\x07", n), 9, impl.Result{Code: impl.RsForm})
	}
	all := strings.Repeat("\xff", impl.MemSize)
	runsTo(t, text, nil, all, 9, impl.Result{Value: 3, Mem: all, Steps: 2})
	// It is bytes that are counted: these are 32 signs, or as many bytes.
	runsTo(t, text, nil, strings.Repeat("\u00e4", 32), 9, impl.Result{Code: impl.RsForm})
	runsTo(t, text, nil, strings.Repeat("\u00e4", 16), 9, impl.Result{Value: 3, Mem: strings.Repeat("\u00e4", 16), Steps: 2})
}

func TestPlacesOfFunctions(t *testing.T) {
	m := rightModule(t, "func 8\nblock\nconst 8 3\nret 0\nfunc 8\nblock\nconst 8 4\nret 0\nfunc 8\nblock\nconst 8 5\nret 0\n")
	for n := 1; n <= impl.MaxFuncs; n++ {
		part := impl.Module{Funcs: m.Funcs[:n]}
		for k := range int64(n) {
			if r := impl.Invoked(part, k, nil, noughts(), 9); !sameResult(r, done(3+k, 2)) {
				t.Error(n, k, r)
			}
		}
		for _, k := range []int64{math.MinInt64, -2, -1, int64(n), int64(n) + 1, math.MaxInt64} {
			if r := impl.Invoked(part, k, nil, noughts(), 9); !isFormAlone(r) {
				t.Error(n, k, r)
			}
		}
	}
}

// A module that is not right is not run, wherever in it that is.
func TestModulesThatAreNotRun(t *testing.T) {
	for _, f := range faults() {
		m := calledModule()
		f.spoil(&m.Funcs[0])
		for k := range int64(len(m.Funcs)) {
			var args []int64
			for range m.Funcs[k].Params {
				args = append(args, 0)
			}
			if r := impl.Invoked(m, k, args, noughts(), 9); !isFormAlone(r) {
				t.Error(f.name, k, r)
			}
		}
	}
	for name, m := range modulesPastLimits() {
		if r := impl.Invoked(m, 0, nil, noughts(), 9); !isFormAlone(r) {
			t.Error(name, r)
		}
	}
	if r := impl.Invoked(impl.Module{}, 0, nil, noughts(), 9); !isFormAlone(r) {
		t.Error(r)
	}
	// The function that is run is right, and calls nothing, but another one is not right.
	m := rightModule(t, "func 8\nblock\nconst 8 3\nret 0\nfunc 8\nblock\nconst 8 4\nret 0\n")
	m.Funcs[1].Ret = 16
	if r := impl.Invoked(m, 0, nil, noughts(), 9); !isFormAlone(r) {
		t.Error(r)
	}
}

// A refRun runs in another way: each function by a call of its own, with its
// values in a map, until something gives up.
type refRun struct {
	m    impl.Module
	left int64
	out  []int64
	mem  []byte
}

type refStop struct{ code int64 }

func (r *refRun) stop(when bool, code int64) {
	if when {
		panic(refStop{code})
	}
}

func (r *refRun) step() {
	r.stop(r.left == 0, impl.RsFuel)
	r.left--
}

// leadAhead counts the blocks ahead of that one that lead to b.
func leadAhead(f impl.Func, b int64, of int64) int {
	n := 0
	for _, block := range f.Blocks[:of] {
		e := block.Term
		if (e.X == b && e.Kind == impl.TmJump) || ((e.X == b || e.Y == b) && e.Kind == impl.TmBranch) {
			n++
		}
	}
	return n
}

func (r *refRun) called(k int64, args []int64, depth int64) int64 {
	r.stop(depth > 6, impl.RsDeep)
	f := r.m.Funcs[k]
	values := map[int64]int64{}
	for at, v := range args {
		values[int64(at)] = v
	}
	for b, from := int64(0), int64(-1); ; {
		first := int64(len(f.Params))
		for _, block := range f.Blocks[:b] {
			first += int64(len(block.Phis) + len(block.Insts))
		}
		was := map[int64]int64{}
		for id, v := range values {
			was[id] = v
		}
		for at, p := range f.Blocks[b].Phis {
			values[first+int64(at)] = was[p.Ins[leadAhead(f, b, from)]]
		}
		first += int64(len(f.Blocks[b].Phis))
		for at, i := range f.Blocks[b].Insts {
			r.step()
			values[first+int64(at)] = r.given(f, i, values, depth)
		}
		r.step()
		e := f.Blocks[b].Term
		from = b
		switch e.Kind {
		case impl.TmRet:
			return values[e.A]
		case impl.TmJump:
			b = e.X
		case impl.TmBranch:
			b = map[int64]int64{1: e.X, 0: e.Y}[values[e.A]]
		default:
			r.stop(true, impl.RsTrap)
		}
	}
}

func (r *refRun) given(f impl.Func, i impl.Inst, values map[int64]int64, depth int64) int64 {
	a, b := values[i.A], values[i.B]
	switch i.Op {
	case impl.OpZext, impl.OpSext, impl.OpTrunc:
		v, _ := impl.Casted(i.Op, impl.TypeOf(f, i.A), i.W, a)
		return v
	case impl.OpConst:
		return i.Imm
	case impl.OpSelect:
		return []int64{values[i.C], b}[a]
	case impl.OpLoad:
		r.stop(a > 31, impl.RsBounds)
		return int64(r.mem[a])
	case impl.OpStore:
		r.stop(a > 31, impl.RsBounds)
		r.mem[a] = byte(b)
		return 0
	case impl.OpPrint:
		r.stop(len(r.out) == 30, impl.RsFull)
		r.out = append(r.out, a)
		return 0
	case impl.OpCall:
		var args []int64
		for _, id := range i.Args {
			args = append(args, values[id])
		}
		return r.called(i.Imm, args, depth+1)
	case impl.OpCopy:
		return a
	}
	v, code := impl.Binary(i.Op, i.W, a, b)
	r.stop(code == impl.BnZero, impl.RsZero)
	return v
}

func refInvoked(m impl.Module, k int64, args []int64, mem string, fuel int64) (out impl.Result) {
	r := &refRun{m: m, left: fuel, mem: []byte(mem)}
	defer func() {
		if s, ok := recover().(refStop); ok {
			out.Code = s.code
		}
		out.Out, out.Mem, out.Steps = r.out, string(r.mem), fuel-r.left
	}()
	out.Value = r.called(k, args, 1)
	return out
}

// A trial is a run of a made module.
type trial struct {
	m    impl.Module
	k    int64
	args []int64
	mem  string
}

func (c trial) run(fuel int64) impl.Result { return impl.Invoked(c.m, c.k, c.args, c.mem, fuel) }

// trialsOf are some runs of each function of a module.
func trialsOf(m impl.Module, d *dice) []trial {
	var l []trial
	for k, f := range m.Funcs {
		for range 3 {
			c := trial{m: m, k: int64(k)}
			for _, w := range f.Params {
				c.args = append(c.args, d.oneOf(edgesOf(w)))
			}
			var mem []byte
			for range impl.MemSize {
				mem = append(mem, byte(d.below(256)))
			}
			c.mem = string(mem)
			l = append(l, c)
		}
	}
	return l
}

func madeTrials(modules uint64) []trial {
	var l []trial
	d := &dice{seed: 77}
	for seed := range modules {
		l = append(l, trialsOf(madeModule(seed), d)...)
	}
	return l
}

func TestRunsAgainstOtherWays(t *testing.T) {
	codes := map[int64]int{}
	for n, c := range madeTrials(600) {
		for _, fuel := range []int64{0, 1, int64(n % 60), impl.MaxFuel} {
			got, want := c.run(fuel), refInvoked(c.m, c.k, c.args, c.mem, fuel)
			if !sameResult(got, want) {
				t.Fatal(impl.ModuleText(c.m), c.k, c.args, fuel, got, want)
			}
			codes[got.Code]++
		}
	}
	for code := int64(impl.RsDone); code <= impl.RsFull; code++ {
		if code != impl.RsForm && codes[code] < 20 {
			t.Error("too few runs end so", code, codes)
		}
	}
}

// No more steps than there is fuel for; what ends without fuel being short
// ends so with any more, and what is short of it has made all it could.
func TestMoreFuelEndsTheSame(t *testing.T) {
	for _, c := range madeTrials(120) {
		most := c.run(impl.MaxFuel)
		if most.Steps > impl.MaxFuel || (most.Code == impl.RsFuel && most.Steps != impl.MaxFuel) {
			t.Fatal(most)
		}
		for _, fuel := range []int64{0, 1, 2, 3, 5, 10, most.Steps / 2, most.Steps - 1, most.Steps, most.Steps + 1, 1999} {
			if fuel < 0 || fuel > impl.MaxFuel {
				continue
			}
			got := c.run(fuel)
			if fuel >= most.Steps && most.Code != impl.RsFuel && !sameResult(got, most) {
				t.Fatal(impl.ModuleText(c.m), fuel, got, most)
			}
			if fuel < most.Steps && (got.Code != impl.RsFuel || got.Steps != fuel || got.Value != 0 || !sameList(got.Out, most.Out[:len(got.Out)])) {
				t.Fatal(impl.ModuleText(c.m), fuel, got, most)
			}
		}
	}
}

// caller has behind all others, where there is room, a function that calls the
// one at k with what it is given.
func caller(m impl.Module, k int64) impl.Module {
	f := m.Funcs[k]
	i := impl.Inst{Op: impl.OpCall, W: f.Ret, Imm: k}
	for at := range f.Params {
		i.Args = append(i.Args, int64(at))
	}
	out := copyModule(m)
	out.Funcs = append(out.Funcs, impl.Func{Params: copyList(f.Params), Ret: f.Ret, Blocks: []impl.Block{{
		Insts: []impl.Inst{i},
		Term:  retOf(int64(len(f.Params))),
	}}})
	return out
}

func TestWhatIsCalledGivesWhatItGivesByItself(t *testing.T) {
	asked := 0
	for _, c := range madeTrials(400) {
		if len(c.m.Funcs) == impl.MaxFuncs {
			continue
		}
		m := caller(c.m, c.k)
		self := c.run(impl.MaxFuel - 2)
		called := impl.Invoked(m, int64(len(m.Funcs))-1, c.args, c.mem, impl.MaxFuel)
		if called.Code == impl.RsDeep {
			continue
		}
		want := self
		want.Steps++
		if self.Code == impl.RsDone {
			want.Steps++
		}
		if self.Code == impl.RsFuel {
			called = impl.Invoked(m, int64(len(m.Funcs))-1, c.args, c.mem, impl.MaxFuel-1)
		}
		if !sameResult(called, want) {
			t.Fatal(impl.ModuleText(m), c.args, called, want)
		}
		asked++
	}
	if asked < 500 {
		t.Error(asked)
	}
}

func TestSeen(t *testing.T) {
	for _, r := range []impl.Result{
		{},
		{Steps: 7},
		{Code: impl.RsForm},
		{Code: impl.RsFuel, Out: []int64{1, 2}, Mem: noughts(), Steps: 9},
		{Value: 5, Out: []int64{}, Mem: countedMem(), Steps: impl.MaxFuel},
		{Code: math.MinInt64, Value: -1, Out: make([]int64, 1000), Mem: "\xff", Steps: math.MaxInt64},
	} {
		want := impl.Result{Code: r.Code, Value: r.Value, Out: copyList(r.Out), Mem: r.Mem}
		if got := impl.Seen(r); !sameResult(got, want) {
			t.Error(r, got)
		}
	}
	spare := make([]int64, 3, 50)
	r := impl.Result{Out: spare, Mem: noughts(), Steps: 4}
	got := impl.Seen(r)
	if shareMemory(r, got) {
		t.Error("shares memory")
	}
	_ = append(got.Out, 9)
	if r.Steps != 4 || spare[:4][3] != 0 {
		t.Error(r)
	}
}

func TestRunsWriteNothing(t *testing.T) {
	for _, c := range madeTrials(60) {
		m, args := copyModule(c.m), copyList(c.args)
		room := append(copyList(args), 5, 6, 7)
		first := impl.Invoked(m, c.k, room[:len(args)], c.mem, impl.MaxFuel)
		if !reflect.DeepEqual(m, copyModule(c.m)) || !sameList(room, append(copyList(args), 5, 6, 7)) {
			t.Fatal("written", c.k, c.args)
		}
		if shareMemory(first, m, room) {
			t.Fatal("shares memory")
		}
		kept := copyList(first.Out)
		second := impl.Invoked(m, c.k, args, c.mem, impl.MaxFuel)
		if !sameResult(first, second) || shareMemory(first, second) || !sameList(kept, first.Out) {
			t.Fatal(first, second)
		}
	}
}

// Whatever is put wrong in a module, a run answers.
func TestRunsOfDisturbedModules(t *testing.T) {
	d := &dice{seed: 21}
	for seed := range uint64(500) {
		m := disturbed(madeModule(seed), d)
		for _, c := range trialsOf(m, d) {
			r := c.run(impl.MaxFuel)
			if impl.Checked(m) != impl.VfOk && !isFormAlone(r) {
				t.Fatal(impl.Checked(m), r)
			}
			if impl.Checked(m) == impl.VfOk && !sameResult(r, refInvoked(m, c.k, c.args, c.mem, impl.MaxFuel)) {
				t.Fatal(impl.ModuleText(m), r)
			}
		}
	}
}
