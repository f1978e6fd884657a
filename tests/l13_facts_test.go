package tests

import (
	"reflect"
	"strconv"
	"strings"
	"testing"

	"loop.example/g00457/impl"
)

func factText(x impl.Fact) string {
	switch {
	case x.Kind == impl.FcOne:
		return strconv.FormatInt(x.Value, 10)
	case x == impl.Fact{Kind: impl.FcMany}:
		return "*"
	case x == impl.Fact{Kind: impl.FcNone}:
		return "."
	}
	return "?"
}

// factsText has a word for each id (. nothing, * many, a number that value),
// and then the blocks that are come to.
func factsText(facts []impl.Fact, blocks []int64) string {
	var l []string
	for _, x := range facts {
		l = append(l, factText(x))
	}
	return strings.Join(l, " ") + " |" + refNumbers(blocks)
}

func factsOf(f impl.Func) string { return factsText(impl.FactsOf(f)) }

// knows holds what is known of functions, in their form but not right for all
// that, against what should be.
func knows(t *testing.T, texts map[string]string) {
	t.Helper()
	for text, want := range texts {
		if got := factsOf(readFunc(t, text)); got != want {
			t.Errorf("%q: %q, not %q", text, got, want)
		}
	}
}

func constInst(w int64, v int64) impl.Inst { return impl.Inst{Op: impl.OpConst, W: w, Imm: v} }

// oneBlock has those parameters and instructions.
func oneBlock(params []int64, l ...impl.Inst) impl.Func {
	return impl.Func{Params: params, Ret: 8, Blocks: []impl.Block{{Insts: l, Term: trapEnd()}}}
}

// lastFact is what is known of the last id.
func lastFact(t *testing.T, f impl.Func) impl.Fact {
	t.Helper()
	facts, blocks := impl.FactsOf(f)
	if int64(len(facts)) != impl.CountOf(f) || !sameList(blocks, []int64{0}) {
		t.Fatal(impl.ModuleText(alone(f)), facts, blocks)
	}
	return facts[len(facts)-1]
}

func TestFactsOfEachOpOnTwo(t *testing.T) {
	zeros := 0
	for op := int64(impl.OpAdd); op <= impl.OpSLt; op++ {
		for _, w := range widths() {
			for _, a := range edgesOf(w) {
				for _, b := range edgesOf(w) {
					want := impl.Fact{Kind: impl.FcMany}
					if v, code := impl.Binary(op, w, a, b); code == impl.BnOk {
						want = impl.Fact{Kind: impl.FcOne, Value: v}
					} else {
						zeros++
					}
					f := oneBlock(nil, constInst(w, a), constInst(w, b), impl.Inst{Op: op, W: w, A: 0, B: 1})
					if got := lastFact(t, f); got != want {
						t.Error(op, w, a, b, got, want)
					}
				}
			}
		}
	}
	if zeros < 4*4 {
		t.Error(zeros)
	}
}

func TestFactsOfCastsAndCopies(t *testing.T) {
	for _, from := range widths() {
		for _, v := range edgesOf(from) {
			for _, to := range widths() {
				for op := int64(impl.OpZext); op <= impl.OpTrunc; op++ {
					if want, ok := impl.Casted(op, from, to, v); ok {
						f := oneBlock(nil, constInst(from, v), impl.Inst{Op: op, W: to, A: 0})
						if got := lastFact(t, f); got != (impl.Fact{Kind: impl.FcOne, Value: want}) {
							t.Error(op, from, to, v, got)
						}
					}
				}
			}
			f := oneBlock(nil, constInst(from, v), impl.Inst{Op: impl.OpCopy, W: from, A: 0})
			if got := lastFact(t, f); got != (impl.Fact{Kind: impl.FcOne, Value: v}) {
				t.Error(from, v, got)
			}
			for a := range int64(2) {
				f := oneBlock(nil, constInst(1, a), constInst(from, v), constInst(from, 1), impl.Inst{Op: impl.OpSelect, W: from, A: 0, B: 1, C: 2})
				if got := lastFact(t, f); got != (impl.Fact{Kind: impl.FcOne, Value: []int64{1, v}[a]}) {
					t.Error(from, v, a, got)
				}
			}
		}
	}
}

// Each op with each of its operands many, nothing, or one: many comes first,
// wherever it stands, then nothing. (Nothing is what stands where no run
// comes.)
func TestFactsOfEachKindOfOperand(t *testing.T) {
	for op := int64(impl.OpAdd); op <= impl.OpCopy; op++ {
		for _, w := range widths() {
			i := impl.Inst{Op: op, W: w}
			of := []int64{w, w}
			switch op {
			case impl.OpZext, impl.OpSext:
				i.W, of = 32, []int64{w}
			case impl.OpTrunc:
				i.W, of = 1, []int64{w}
			case impl.OpSelect:
				of = []int64{1, w, w}
			case impl.OpCopy:
				of = []int64{w}
			case impl.OpConst, impl.OpLoad, impl.OpStore, impl.OpPrint, impl.OpCall:
				continue
			}
			if _, ok := impl.Casted(op, w, i.W, 1); !ok && op >= impl.OpZext && op <= impl.OpTrunc {
				continue
			}
			eachKinds(len(of), func(kinds []int64) { operandsAre(t, i, of, kinds) })
		}
	}
}

// eachKinds goes through all rows of that many kinds of facts.
func eachKinds(n int, do func(kinds []int64)) {
	count := 1
	for range n {
		count *= 3
	}
	for k := range count {
		var kinds []int64
		for range n {
			kinds = append(kinds, int64(k%3))
			k /= 3
		}
		do(kinds)
	}
}

// operandsAre asks for an instruction whose operands, of these widths, have
// these kinds of facts. Those that are one are 1.
func operandsAre(t *testing.T, i impl.Inst, of []int64, kinds []int64) {
	t.Helper()
	// Parameters for many, constants for one, and behind the end others.
	f := impl.Func{Params: of, Ret: 8, Blocks: []impl.Block{{Term: trapEnd()}, {Term: trapEnd()}}}
	n := int64(len(of))
	var ids []int64
	for k, w := range of {
		f.Blocks[0].Insts = append(f.Blocks[0].Insts, constInst(w, 1))
		f.Blocks[1].Insts = append(f.Blocks[1].Insts, constInst(w, 1))
		ids = append(ids, map[int64]int64{impl.FcMany: 0, impl.FcOne: n, impl.FcNone: 2*n + 1}[kinds[k]]+int64(k))
	}
	f.Blocks[0].Insts = append(f.Blocks[0].Insts, naming(i, ids))
	facts, _ := impl.FactsOf(f)
	if len(facts) == 0 {
		t.Fatal(i, of, kinds)
	}
	want := int64(impl.FcOne)
	if has(kinds, impl.FcNone) {
		want = impl.FcNone
	}
	if has(kinds, impl.FcMany) {
		want = impl.FcMany
	}
	if got := facts[2*n]; got.Kind != want || want != impl.FcOne && got.Value != 0 {
		t.Error(i, of, kinds, got)
	}
}

func TestFactsByHand(t *testing.T) {
	knows(t, map[string]string{
		"func 8\nblock\ntrap\n":                                 " | 0",
		"func 8 8 1 32\nblock\nret 0\n":                         "* * * | 0",
		"func 8\nblock\nconst 8 0\nconst 8 255\nret 0\n":        "0 255 | 0",
		"func 8\nblock\nconst 32 4294967295\nconst 1 1\ntrap\n": "4294967295 1 | 0",
		// What does more than give is many, also what gives nothing, and whatever it names.
		"func 8 8\nblock\nconst 32 1\nconst 8 2\nload 8 1\nstore 0 1 2\nprint 0 2\ncall 8 0 2\nadd 8 2 3\nadd 8 2 6\nret 2\n": "* 1 2 * * * * * * | 0",
		// No rule but by what all operands are: neither 0 times many nor many less itself is one.
		"func 8 8\nblock\nconst 8 0\nmul 8 1 0\nsub 8 0 0\nand 8 0 1\nconst 1 1\nselect 8 5 1 0\nselect 8 5 0 1\neq 8 0 0\nret 1\n": "* 0 * * * 1 * * * | 0",
		// By 0, and what hangs on that.
		"func 8\nblock\nconst 8 0\nconst 8 9\nudiv 8 1 0\nsdiv 8 1 0\nurem 8 1 0\nsrem 8 0 0\nadd 8 1 2\nudiv 8 0 1\nret 1\n": "0 9 * * * * * 0 | 0",
		// A row of what is known.
		"func 8\nblock\nconst 8 200\nzext 16 0\nadd 16 1 1\ntrunc 8 2\nslt 8 3 0\nsext 8 4\nselect 8 4 0 3\ncopy 8 6\nret 7\n": "200 200 400 144 1 255 200 200 | 0",
		// What is not come to is nothing, constants and calls too.
		"func 8 8\nblock\nret 0\nblock\nconst 8 1\nadd 8 0 1\nload 8 4\nconst 32 1\ncall 8 0 0\nprint 0 0\njump 1\n":    "* . . . . . . | 0",
		"func 8 8\nblock\njump 2\nblock\nconst 8 1\njump 2\nblock\nphi 8 3 1\nret 2\nblock\nphi 8\nret 3\n":             "* . . . | 0 2",
		"func 8 8\nblock\nconst 8 7\njump 2\nblock\nconst 8 1\njump 2\nblock\nphi 8 1 2\nphi 8 0 1\nphi 8 1 0\nret 3\n": "* 7 . 7 * 7 | 0 2",
	})
}

func TestFactsOfBranches(t *testing.T) {
	knows(t, map[string]string{
		// Of a constant: 1 and 0; what phis have for the other way is not asked.
		"func 8\nblock\nconst 1 1\nbranch 0 1 2\nblock\nconst 8 5\njump 3\nblock\nconst 8 6\njump 3\nblock\nphi 8 1 2\nadd 8 3 3\nret 4\n": "1 5 . 5 10 | 0 1 3",
		"func 8\nblock\nconst 1 0\nbranch 0 1 2\nblock\nconst 8 5\njump 3\nblock\nconst 8 6\njump 3\nblock\nphi 8 1 2\nadd 8 3 3\nret 4\n": "0 . 6 6 12 | 0 2 3",
		// Of a parameter: both ways, and what comes together alike or unlike.
		"func 8 1\nblock\nbranch 0 1 2\nblock\nconst 8 5\njump 3\nblock\nconst 8 6\njump 3\nblock\nphi 8 1 2\nadd 8 3 3\nret 4\n": "* 5 6 * * | 0 1 2 3",
		"func 8 1\nblock\nbranch 0 1 2\nblock\nconst 8 5\njump 3\nblock\nconst 8 5\njump 3\nblock\nphi 8 1 2\nadd 8 3 3\nret 4\n": "* 5 5 5 10 | 0 1 2 3",
		// What the branch asks is not known behind it.
		"func 1 1\nblock\nbranch 0 1 2\nblock\ncopy 1 0\nret 1\nblock\nret 0\n": "* * | 0 1 2",
		// An edge, not the block it leads from: one of the two is not gone.
		"func 8 8\nblock\nconst 1 1\nconst 8 3\nbranch 1 1 2\nblock\njump 2\nblock\nphi 8 0 2\nret 3\n": "* 1 3 3 | 0 1 2",
		"func 8 8\nblock\nconst 1 0\nconst 8 3\nbranch 1 1 2\nblock\njump 2\nblock\nphi 8 2 0\nret 3\n": "* 0 3 3 | 0 2",
		// Of a phi: with one value, with two, with what is worked out.
		"func 8 1\nblock\nconst 1 1\nbranch 0 1 2\nblock\njump 3\nblock\njump 3\nblock\nphi 1 1 1\nbranch 2 4 5\nblock\ntrap\nblock\nconst 8 1\nret 3\n":             "* 1 1 . | 0 1 2 3 4",
		"func 8 1\nblock\nconst 1 1\nconst 1 0\nbranch 0 1 2\nblock\njump 3\nblock\njump 3\nblock\nphi 1 1 2\nbranch 3 4 5\nblock\ntrap\nblock\ntrap\n":              "* 1 0 * | 0 1 2 3 4 5",
		"func 8\nblock\nconst 8 4\nconst 8 9\nult 8 1 0\nbranch 2 1 2\nblock\ntrap\nblock\nult 8 0 1\nbranch 3 3 1\nblock\nudiv 8 1 0\nret 4\n":                      "4 9 0 1 2 | 0 2 3",
		"func 8\nblock\nconst 8 0\nconst 8 9\nudiv 8 1 0\nult 8 2 1\nbranch 3 1 2\nblock\ntrap\nblock\nret 2\n":                                                      "0 9 * * | 0 1 2",
		"func 8 8 1\nblock\nconst 8 1\ncall 8 0 2 1\nne 8 3 2\nbranch 4 1 2\nblock\nconst 1 0\nbranch 5 1 2\nblock\nret 2\nblock\nret 0\n":                           "* * 1 * * 0 | 0 1 2",
		"func 8 32\nblock\nload 8 0\ntrunc 1 1\nbranch 2 3 1\nblock\nconst 8 7\njump 2\nblock\nphi 8 3 5\nret 4\nblock\nconst 8 7\njump 2\nblock\nprint 0 4\ntrap\n": "* * * 7 7 7 . | 0 1 2 3",
	})
}

func TestFactsOfLoops(t *testing.T) {
	knows(t, map[string]string{
		// What goes round unchanged is one, what counts is many.
		"func 8 1\nblock\nconst 8 5\njump 1\nblock\nphi 8 1 2\nbranch 0 1 2\nblock\nret 2\n":              "* 5 5 | 0 1 2",
		"func 8 1\nblock\nconst 8 5\njump 1\nblock\nphi 8 1 3\nadd 8 2 1\nbranch 0 1 2\nblock\nret 2\n":   "* 5 * * | 0 1 2",
		"func 8 1\nblock\nconst 8 1\njump 1\nblock\nphi 8 1 3\nmul 8 2 1\nbranch 0 1 2\nblock\nret 2\n":   "* 1 1 1 | 0 1 2",
		"func 8\nblock\nconst 8 0\nconst 8 1\njump 1\nblock\nphi 8 0 3\nadd 8 2 1\njump 1\n":              "0 1 * * | 0 1",
		"func 8 8 1\nblock\nconst 8 0\njump 1\nblock\nphi 8 2 3\nphi 8 0 4\nbranch 1 1 2\nblock\nret 3\n": "* * 0 0 * | 0 1 2",
		// Two that change places, alike and unlike; of two that go round by each other.
		"func 8 1\nblock\nconst 8 5\nconst 8 5\njump 1\nblock\nphi 8 1 4\nphi 8 2 3\nbranch 0 1 2\nblock\nret 3\n": "* 5 5 5 5 | 0 1 2",
		"func 8 1\nblock\nconst 8 5\nconst 8 6\njump 1\nblock\nphi 8 1 4\nphi 8 2 3\nbranch 0 1 2\nblock\nret 3\n": "* 5 6 * * | 0 1 2",
		// A loop that is not left, and one that is not gone round.
		"func 8\nblock\nconst 1 1\njump 1\nblock\nphi 1 0 1\nbranch 1 1 2\nblock\nconst 8 1\nret 2\n": "1 1 . | 0 1",
		"func 8\nblock\nconst 1 0\njump 1\nblock\nphi 1 0 1\nbranch 1 1 2\nblock\nconst 8 1\nret 2\n": "0 0 1 | 0 1 2",
		// First one way is known; when the loop comes back the other is, too.
		"func 8\nblock\nconst 1 0\nconst 1 1\nconst 8 9\njump 1\nblock\nphi 1 0 1\nbranch 3 2 3\nblock\nret 2\nblock\njump 1\n":          "0 1 9 * | 0 1 2 3",
		"func 8\nblock\nconst 8 0\nconst 8 1\njump 1\nblock\nphi 8 0 4\neq 8 2 0\nxor 8 2 1\nbranch 3 1 2\nblock\nret 2\n":               "0 1 * * * | 0 1 2",
		"func 8\nblock\nconst 8 1\njump 4\nblock\nadd 8 2 0\nret 1\nblock\nadd 8 3 0\njump 1\nblock\nadd 8 0 0\njump 2\nblock\njump 3\n": "1 4 3 2 | 0 1 2 3 4",
	})
}

// In its form is asked, and what comes in, and widths; not calls, and not
// where what is named stands.
func TestFactsOfWhatIsNotRight(t *testing.T) {
	knows(t, map[string]string{
		// VfDom: what is named is not there yet, or nowhere where a run comes.
		"func 8\nblock\nadd 8 0 0\nret 0\n":                                                        ". | 0",
		"func 8\nblock\nadd 8 1 1\nconst 8 4\nret 0\n":                                             "8 4 | 0",
		"func 8\nblock\nbranch 0 1 2\nblock\nconst 1 0\ntrap\nblock\ntrap\n":                       ". | 0",
		"func 8\nblock\ncopy 1 0\nbranch 0 1 2\nblock\ntrap\nblock\ntrap\n":                        ". | 0",
		"func 8\nblock\nconst 1 1\nbranch 0 1 2\nblock\ncopy 8 2\nret 1\nblock\nconst 8 2\ntrap\n": "1 . . | 0 1",
		"func 8\nblock\nbranch 0 1 2\nblock\njump 2\nblock\nphi 1 0 0\ntrap\n":                     ". | 0",
		"func 8 1\nblock\nbranch 0 1 2\nblock\njump 2\nblock\nphi 8 1 2\nconst 8 3\ntrap\n":        "* 3 3 | 0 1 2",
		// VfCall: a call of another width, with other args, of another module's function.
		"func 8 8\nblock\ncall 16 0\nadd 16 1 1\nret 0\n": "* * * | 0",
	})
	f := readFunc(t, "func 8 8\nblock\nconst 8 2\ncall 8 0 1 1 1 1\nret 1\n")
	f.Blocks[0].Insts[1].Imm = impl.MaxFuncs - 1
	if got := factsOf(f); got != "* 2 * | 0" {
		t.Error(got)
	}
}

func TestNoFacts(t *testing.T) {
	nothing := func(name string, f impl.Func) {
		t.Helper()
		if facts, blocks := impl.FactsOf(f); len(facts) > 0 || len(blocks) > 0 {
			t.Error(name, facts, blocks)
		}
	}
	for name, f := range formless() {
		nothing(name, f)
	}
	codes := map[int64]int{}
	for _, x := range faults() {
		m := calledModule()
		x.spoil(&m.Funcs[0])
		codes[x.code]++
		if x.code <= impl.VfType {
			nothing(x.name, m.Funcs[0])
		} else if facts, blocks := impl.FactsOf(m.Funcs[0]); len(facts) != 10 || !has(blocks, 1) {
			t.Error(x.name, facts, blocks)
		}
	}
	for code := int64(impl.VfShape); code <= impl.VfDom; code++ {
		if codes[code] == 0 {
			t.Error(code)
		}
	}
	for name, text := range map[string]string{
		"a phi in the first block":         "func 8 8\nblock\nphi 8\nret 0\n",
		"something leads to the first":     "func 8 8\nblock\njump 0\n",
		"too few come in":                  "func 8 8\nblock\njump 1\nblock\nphi 8\nret 0\n",
		"too many come in, nobody comes":   "func 8 8\nblock\nret 0\nblock\nphi 8 0\ntrap\n",
		"a width that no one comes to":     "func 8 8\nblock\nret 0\nblock\nzext 8 0\ntrap\n",
		"an end that asks for more":        "func 8 8\nblock\nbranch 0 1 2\nblock\ntrap\nblock\ntrap\n",
		"an end that gives another":        "func 8 16\nblock\nret 0\n",
		"one of another width comes in":    "func 8 16\nblock\njump 1\nblock\nphi 8 0\ntrap\n",
		"something that gives nothing":     "func 8 8\nblock\nprint 0 0\nprint 0 1\nret 0\n",
		"an address that is not wide":      "func 8 8\nblock\nload 8 0\nret 0\n",
		"what is stored is not a byte":     "func 8 32\nblock\nstore 0 0 0\ntrap\n",
		"a question that is not of one":    "func 8 8\nblock\nselect 8 0 0 0\nret 0\n",
		"operands that are not of a width": "func 8 8 16\nblock\nadd 8 0 1\nret 0\n",
	} {
		nothing(name, readFunc(t, text))
	}
}

// refFacts works out all of one round by the round ahead of it alone, and each
// time anew where one comes.
func refFacts(f impl.Func) ([]impl.Fact, []int64) {
	now := make([]impl.Fact, impl.CountOf(f))
	for id := range f.Params {
		now[id].Kind = impl.FcMany
	}
	for {
		come, over := refCome(f, now)
		next := append([]impl.Fact(nil), now...)
		preds := refDrawing(f).preds
		for b, ids := range idsOfBlocks(f) {
			for k, id := range ids {
				phis := f.Blocks[b].Phis
				switch {
				case !has(come, int64(b)):
				case k < len(phis):
					for at, from := range preds[b] {
						if over[[2]int64{from, int64(b)}] {
							next[id] = refMet(next[id], now[phis[k].Ins[at]])
						}
					}
				default:
					next[id] = refMet(next[id], refMade(f, f.Blocks[b].Insts[k-len(phis)], now))
				}
			}
		}
		if reflect.DeepEqual(next, now) {
			return now, come
		}
		now = next
	}
}

func refMet(a, b impl.Fact) impl.Fact {
	switch {
	case a.Kind == impl.FcNone || a == b:
		return b
	case b.Kind == impl.FcNone:
		return a
	}
	return impl.Fact{Kind: impl.FcMany}
}

// refCome are the blocks that are come to, and the edges, when so much is
// known.
func refCome(f impl.Func, now []impl.Fact) ([]int64, map[[2]int64]bool) {
	over := map[[2]int64]bool{}
	is := make([]bool, len(f.Blocks))
	is[0] = true
	for range f.Blocks {
		for b, block := range f.Blocks {
			e := block.Term
			if !is[b] || e.Kind != impl.TmJump && e.Kind != impl.TmBranch {
				continue
			}
			if e.Kind == impl.TmJump || now[e.A].Kind == impl.FcMany || now[e.A] == (impl.Fact{Kind: impl.FcOne, Value: 1}) {
				is[e.X], over[[2]int64{int64(b), e.X}] = true, true
			}
			if e.Kind == impl.TmBranch && (now[e.A].Kind == impl.FcMany || now[e.A] == (impl.Fact{Kind: impl.FcOne})) {
				is[e.Y], over[[2]int64{int64(b), e.Y}] = true, true
			}
		}
	}
	var come []int64
	for b := range is {
		if is[b] {
			come = append(come, int64(b))
		}
	}
	return come, over
}

func refMade(f impl.Func, i impl.Inst, now []impl.Fact) impl.Fact {
	many := impl.Fact{Kind: impl.FcMany}
	nothing := false
	values := map[int64]int64{}
	for _, id := range impl.OperandsOf(i) {
		if now[id] == many {
			return many
		}
		nothing = nothing || now[id].Kind == impl.FcNone
		values[id] = now[id].Value
	}
	switch {
	case i.Op >= impl.OpLoad && i.Op <= impl.OpCall:
		return many
	case nothing:
		return impl.Fact{}
	case isDivision(i.Op) && values[i.B] == 0:
		return many
	}
	return impl.Fact{Kind: impl.FcOne, Value: (&refRun{}).given(f, i, values, 1)}
}

// misnamed names others of the same width in some places, seen from there or
// not.
func misnamed(m impl.Module, d *dice) impl.Module {
	m = copyModule(m)
	for k := range m.Funcs {
		f := &m.Funcs[k]
		eachNamed(f, func(id *int64) {
			if d.below(6) == 0 {
				*id = d.oneOf(ofWidth(*f, impl.TypeOf(*f, *id)))
			}
		})
	}
	return m
}

func TestFactsAgainstOtherWays(t *testing.T) {
	d := &dice{seed: 51}
	kinds := map[int64]int{}
	wrong, unsound := 0, 0
	for n, m := range graphModules(500) {
		switch n % 6 {
		case 2, 3:
			m = disturbed(m, d)
		case 4, 5:
			m = misnamed(m, d)
		}
		for _, f := range m.Funcs {
			var want []impl.Fact
			var come []int64
			code := impl.FuncChecked(impl.Module{Funcs: []impl.Func{f, counted(0), counted(0)}}, 0)
			switch code {
			case impl.VfOk, impl.VfCall, impl.VfDom:
				want, come = refFacts(f)
			default:
				wrong++
			}
			if code == impl.VfDom {
				unsound++
			}
			if got := factsOf(f); got != factsText(want, come) {
				t.Fatal(impl.ModuleText(alone(f)), got, factsText(want, come))
			}
			for _, x := range want {
				kinds[x.Kind]++
			}
		}
	}
	if kinds[impl.FcNone] < 1000 || kinds[impl.FcOne] < 1000 || kinds[impl.FcMany] < 1000 || wrong < 50 || unsound < 100 {
		t.Error(kinds, wrong, unsound)
	}
}

func TestFactsAtLimits(t *testing.T) {
	// The longest row, each by the next one: it takes a round for each.
	text := "func 8\nblock\n"
	for next := int64(1); next < impl.MaxValues; next++ {
		text += "copy 8" + refNumbers([]int64{next}) + "\n"
	}
	knows(t, map[string]string{text + "const 8 7\nret 0\n": strings.Repeat("7 ", impl.MaxValues) + "| 0"})
	// As many blocks as there may be, against their order.
	row := "func 8\nblock\nconst 8 3\njump 9\nblock\nphi 8 2\nret 1\n"
	for b := int64(2); b < impl.MaxBlocks-1; b++ {
		row += "block\nphi 8" + refNumbers([]int64{b + 1}) + "\njump" + refNumbers([]int64{b - 1}) + "\n"
	}
	knows(t, map[string]string{row + "block\nphi 8 0\njump 8\n": strings.Repeat("3 ", impl.MaxBlocks) + "| 0 1 2 3 4 5 6 7 8 9"})
	for name, m := range modulesAtLimits() {
		for _, f := range m.Funcs {
			var want []impl.Fact
			var come []int64
			if code := impl.FuncChecked(impl.Module{Funcs: []impl.Func{f, counted(0), counted(0)}}, 0); code == impl.VfOk || code > impl.VfType {
				want, come = refFacts(f)
			}
			if got := factsOf(f); got != factsText(want, come) {
				t.Error(name, got)
			}
		}
	}
}

func TestPropagatedByHand(t *testing.T) {
	passesTo(t, impl.Propagated, map[string]string{
		"func 8\nblock\ntrap\n": "func 8\nblock\ntrap\n",
		// Constants of the width that is given; copies, phis and divisions that fail stay.
		"func 8\nblock\nconst 8 200\nzext 16 0\nadd 16 1 1\ntrunc 8 2\nslt 8 3 0\nsext 8 4\nselect 8 4 0 3\ncopy 8 6\nret 7\n": "func 8\nblock\nconst 8 200\nconst 16 200\nconst 16 400\nconst 8 144\nconst 1 1\nconst 8 255\nconst 8 200\ncopy 8 6\nret 7\n",
		"func 8\nblock\nconst 8 0\nconst 8 9\nudiv 8 1 0\nurem 8 0 1\nadd 8 1 2\nret 4\n":                                      "func 8\nblock\nconst 8 0\nconst 8 9\nudiv 8 1 0\nconst 8 0\nadd 8 1 2\nret 4\n",
		// What does more than give stays.
		"func 8 8\nblock\nconst 32 1\nconst 8 2\nload 8 1\nstore 0 1 2\nprint 0 2\ncall 8 0 2\nadd 8 2 3\nadd 8 2 2\nret 8\n": "func 8 8\nblock\nconst 32 1\nconst 8 2\nload 8 1\nstore 0 1 2\nprint 0 2\ncall 8 0 2\nadd 8 2 3\nconst 8 4\nret 8\n",
		// A loop in which one stays as it is, and one counts.
		"func 8 1\nblock\nconst 8 1\nconst 8 9\njump 1\nblock\nphi 8 1 5\nphi 8 2 6\nmul 8 3 1\nadd 8 4 5\nbranch 0 1 2\nblock\nsub 8 5 3\nadd 8 7 6\nret 8\n": "func 8 1\nblock\nconst 8 1\nconst 8 9\njump 1\nblock\nphi 8 1 5\nphi 8 2 6\nconst 8 1\nadd 8 4 5\nbranch 0 1 2\nblock\nconst 8 0\nadd 8 7 6\nret 8\n",
		// Behind a branch that is known: what comes together is one.
		"func 8\nblock\nconst 8 1\nult 8 0 0\nbranch 1 1 2\nblock\nconst 8 5\njump 3\nblock\nconst 8 6\njump 3\nblock\nphi 8 2 3\nadd 8 4 4\nret 5\n": "func 8\nblock\nconst 8 1\nconst 1 0\njump 2\nblock\nconst 8 5\njump 3\nblock\nconst 8 6\njump 3\nblock\nphi 8 2 3\nconst 8 12\nret 5\n",
		// The phis of the other way have nothing for it any more: the first, one between, the last.
		"func 8 8 1\nblock\nconst 1 1\ncopy 1 2\nbranch 3 1 3\nblock\nphi 1 3\nbranch 4 2 3\nblock\nbranch 1 3 4\nblock\nphi 8 0 0 0\nret 5\nblock\nret 0\n": "func 8 8 1\nblock\nconst 1 1\ncopy 1 2\njump 1\nblock\nphi 1 3\njump 2\nblock\nbranch 1 3 4\nblock\nphi 8 0\nret 5\nblock\nret 0\n",
		"func 8 8 8 1\nblock\nconst 1 0\nbranch 2 1 2\nblock\njump 3\nblock\nbranch 3 3 4\nblock\nphi 8 0 1\nret 4\nblock\nphi 8 1\nret 5\n":                 "func 8 8 8 1\nblock\nconst 1 0\nbranch 2 1 2\nblock\njump 3\nblock\njump 4\nblock\nphi 8 0\nret 4\nblock\nphi 8 1\nret 5\n",
		// A branch of a phi that is one, in a loop that is not gone round then.
		"func 8 8\nblock\nconst 1 0\njump 1\nblock\nphi 1 1 2\nphi 8 0 3\nbranch 2 1 2\nblock\nret 3\n": "func 8 8\nblock\nconst 1 0\njump 1\nblock\nphi 1 1\nphi 8 0\njump 2\nblock\nret 3\n",
		// Where one does not come nothing is known of what is made there, but a branch may ask for what is made elsewhere.
		"func 8\nblock\nconst 8 1\nret 0\nblock\nadd 8 0 0\nret 1\n":                                                  "func 8\nblock\nconst 8 1\nret 0\nblock\nadd 8 0 0\nret 1\n",
		"func 8\nblock\ntrap\nblock\nconst 1 1\nbranch 0 2 3\nblock\ntrap\nblock\ntrap\n":                             "func 8\nblock\ntrap\nblock\nconst 1 1\nbranch 0 2 3\nblock\ntrap\nblock\ntrap\n",
		"func 8\nblock\nconst 1 1\ncopy 1 0\ntrap\nblock\nbranch 1 2 3\nblock\nphi 1 0\ntrap\nblock\nphi 1 0\ntrap\n": "func 8\nblock\nconst 1 1\ncopy 1 0\ntrap\nblock\njump 2\nblock\nphi 1 0\ntrap\nblock\nphi 1\ntrap\n",
		// Function by function: what one gives is not known in another one.
		"func 8\nblock\ncall 8 1\nadd 8 0 0\nret 1\nfunc 8\nblock\nconst 8 1\nadd 8 0 0\nret 1\n": "func 8\nblock\ncall 8 1\nadd 8 0 0\nret 1\nfunc 8\nblock\nconst 8 1\nconst 8 2\nret 1\n",
	})
}

func refPropagated(f impl.Func) impl.Func {
	facts, _ := refFacts(f)
	g := refChosen(f, func(id int64) (int64, bool) { return facts[id].Value, facts[id].Kind == impl.FcOne })
	for k, i := range instPlaces(&g) {
		id := idOfInst(g, k)
		if i.Op < impl.OpLoad && facts[id].Kind == impl.FcOne {
			*i = constInst(impl.TypeOf(f, id), facts[id].Value)
		}
	}
	return g
}

func TestPropagatedAgainstOtherWays(t *testing.T) {
	holdsAgainst(t, impl.Propagated, refPropagated, 300)
}

func TestWhatIsPropagatedRunsStepByStep(t *testing.T) { runsAsBefore(t, impl.Propagated, true) }

// What is come to no more is not reached, and what is reached is come to; of
// what is below OpLoad, only what is many is no constant there.
func TestWhatIsComeToNoMoreIsNotReached(t *testing.T) {
	less, constants := 0, 0
	for _, m := range graphModules(300) {
		out, ok := impl.Propagated(m)
		if !ok {
			t.Fatal(impl.ModuleText(m))
		}
		for k, f := range out.Funcs {
			facts, come := impl.FactsOf(m.Funcs[k])
			if !sameList(impl.Reached(f), come) {
				t.Fatal(impl.ModuleText(m), impl.ModuleText(out), come)
			}
			if len(come) < len(impl.Reached(m.Funcs[k])) {
				less++
			}
			for at, i := range instPlaces(&f) {
				id := idOfInst(f, at)
				b, _ := impl.PlaceOf(f, id)
				if i.Op < impl.OpLoad && i.Op != impl.OpConst && has(come, b) && facts[id].Kind != impl.FcMany {
					t.Fatal(impl.ModuleText(m), impl.ModuleText(out), id)
				}
				if was := instPlaces(&m.Funcs[k])[at]; was.Op != i.Op {
					constants++
				}
			}
		}
		staysBy(t, impl.Propagated, out)
	}
	if less < 50 || constants < 300 {
		t.Error(less, constants)
	}
}

// A division that would fail is not reckoned away, and one that is behind a
// branch that is not taken does not fail.
func TestPropagatedDivisions(t *testing.T) {
	for _, op := range []string{"udiv", "sdiv", "urem", "srem"} {
		text := passed(t, impl.Propagated, "func 8\nblock\nconst 8 3\nconst 8 0\n"+op+" 8 0 1\nret 0\n")
		runsTo(t, text, nil, noughts(), 99, impl.Result{Code: impl.RsZero, Mem: noughts(), Steps: 3})
		text = passed(t, impl.Propagated, "func 8\nblock\nconst 8 3\nconst 8 0\neq 8 0 1\nbranch 2 1 2\nblock\n"+op+" 8 0 1\nret 0\nblock\nret 0\n")
		runsTo(t, text, nil, noughts(), 99, done(3, 5))
	}
}

func TestPropagatedRefuses(t *testing.T) { refusesWrong(t, impl.Propagated) }

func TestFactsWriteNothing(t *testing.T) {
	writesNothing(t, impl.Propagated)
	for seed := range uint64(40) {
		m := roomy(busyModule(seed))
		for _, f := range m.Funcs {
			a, come := impl.FactsOf(f)
			b, again := impl.FactsOf(f)
			if factsText(a, come) != factsText(b, again) || shareMemory(f, a, come, b, again) {
				t.Fatal(seed, a, b)
			}
		}
		if !reflect.DeepEqual(allOf(m), allOf(roomy(busyModule(seed)))) {
			t.Fatal(seed, "written into an argument")
		}
	}
}
