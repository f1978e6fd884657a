package tests

import (
	"fmt"
	"math"
	"reflect"
	"strings"
	"testing"

	"loop.example/g00457/impl"
)

// opNames has the word of each op at its place less 1.
func opNames() []string {
	return strings.Split("add sub mul udiv sdiv urem srem and or xor shl lshr ashr eq ne ult slt zext sext trunc const select load store print call copy", " ")
}

// standing is a module of three functions, the first of which has sixty ids,
// among them that instruction.
func standing(i impl.Inst) impl.Module {
	f := counted(impl.MaxValues - 1)
	f.Blocks[0].Insts = append(f.Blocks[0].Insts, i)
	return impl.Module{Funcs: []impl.Func{f, counted(0), counted(0)}}
}

func refInstText(i impl.Inst) string {
	s := fmt.Sprint(opNames()[i.Op-1], " ", i.W)
	if i.Op == impl.OpConst || i.Op == impl.OpCall {
		s += fmt.Sprint(" ", i.Imm)
	}
	for _, id := range impl.OperandsOf(i) {
		s += fmt.Sprint(" ", id)
	}
	return s
}

func refNumbers(l []int64) string {
	s := ""
	for _, n := range l {
		s += fmt.Sprint(" ", n)
	}
	return s
}

func refModuleText(m impl.Module) string {
	s := ""
	for _, f := range m.Funcs {
		s += fmt.Sprintf("func %d%s\n", f.Ret, refNumbers(f.Params))
		for _, b := range f.Blocks {
			s += "block\n"
			for _, p := range b.Phis {
				s += fmt.Sprintf("phi %d%s\n", p.W, refNumbers(p.Ins))
			}
			for _, i := range b.Insts {
				s += refInstText(i) + "\n"
			}
			switch e := b.Term; e.Kind {
			case impl.TmRet:
				s += fmt.Sprintf("ret %d\n", e.A)
			case impl.TmJump:
				s += fmt.Sprintf("jump %d\n", e.X)
			case impl.TmBranch:
				s += fmt.Sprintf("branch %d %d %d\n", e.A, e.X, e.Y)
			case impl.TmTrap:
				s += "trap\n"
			}
		}
	}
	return s
}

// looseLine takes any blanks, signs and noughts; what is written of it tells
// whether there were some.
func looseLine(s string) (string, []int64) {
	words := strings.Fields(s)
	if len(words) == 0 {
		return "", nil
	}
	var l []int64
	for _, w := range words[1:] {
		n := int64(-1)
		fmt.Sscan(w, &n)
		l = append(l, n)
	}
	return words[0], l
}

func looseInst(word string, l []int64) impl.Inst {
	i := impl.Inst{}
	for k, name := range opNames() {
		if name == word {
			i.Op = int64(k + 1)
		}
	}
	if i.Op == 0 || len(l) == 0 {
		return impl.Inst{}
	}
	i.W, l = l[0], l[1:]
	if (i.Op == impl.OpConst || i.Op == impl.OpCall) && len(l) > 0 {
		i.Imm, l = l[0], l[1:]
	}
	if len(l) > 3 && i.Op != impl.OpCall {
		l = l[:3]
	}
	return naming(i, l)
}

func refReadInst(s string) (impl.Inst, bool) {
	i := looseInst(looseLine(s))
	if !impl.ShapeOk(standing(i)) || refInstText(i) != s {
		return impl.Inst{}, false
	}
	return i, true
}

func refReadModule(s string) (impl.Module, bool) {
	var m impl.Module
	for _, l := range strings.Split(s, "\n") {
		word, n := looseLine(l)
		n = append(n, make([]int64, max(0, 3-len(n)))...)
		if word == "func" {
			_, all := looseLine(l)
			m.Funcs = append(m.Funcs, impl.Func{Ret: n[0], Params: append([]int64{}, all[min(1, len(all)):]...)})
			continue
		}
		if len(m.Funcs) == 0 {
			return impl.Module{}, false
		}
		f := &m.Funcs[len(m.Funcs)-1]
		if word == "block" {
			f.Blocks = append(f.Blocks, impl.Block{})
			continue
		}
		if len(f.Blocks) == 0 {
			return impl.Module{}, false
		}
		b := &f.Blocks[len(f.Blocks)-1]
		_, all := looseLine(l)
		switch word {
		case "":
		case "phi":
			b.Phis = append(b.Phis, impl.Phi{W: n[0], Ins: append([]int64{}, all[min(1, len(all)):]...)})
		case "ret":
			b.Term = retOf(n[0])
		case "jump":
			b.Term = jumpTo(n[0])
		case "branch":
			b.Term = branchOf(n[0], n[1], n[2])
		case "trap":
			b.Term = trapEnd()
		default:
			b.Insts = append(b.Insts, looseInst(word, all))
		}
	}
	if !impl.ShapeOk(m) || refModuleText(m) != s {
		return impl.Module{}, false
	}
	return m, true
}

// edits are all texts that come of s by one byte less, more, or another one.
func edits(s string, with string) []string {
	var l []string
	for at := range len(s) + 1 {
		for k := range len(with) {
			l = append(l, s[:at]+with[k:k+1]+s[at:])
			if at < len(s) {
				l = append(l, s[:at]+with[k:k+1]+s[at+1:])
			}
		}
		if at < len(s) {
			l = append(l, s[:at]+s[at+1:], s[:at])
		}
	}
	return l
}

func sameModule(a, b impl.Module) bool {
	return reflect.DeepEqual(copyModule(a), copyModule(b))
}

func sameInst(a, b impl.Inst) bool {
	return reflect.DeepEqual(copyInst(a), copyInst(b))
}

// instTexts has a text of each op at the edges of what it may name.
func instTexts() map[string]impl.Inst {
	return map[string]impl.Inst{
		"add 1 0 0":           {Op: impl.OpAdd, W: 1},
		"sub 8 1 59":          {Op: impl.OpSub, W: 8, A: 1, B: 59},
		"mul 16 59 1":         {Op: impl.OpMul, W: 16, A: 59, B: 1},
		"udiv 32 10 9":        {Op: impl.OpUDiv, W: 32, A: 10, B: 9},
		"sdiv 8 2 3":          {Op: impl.OpSDiv, W: 8, A: 2, B: 3},
		"urem 8 4 5":          {Op: impl.OpURem, W: 8, A: 4, B: 5},
		"srem 8 6 7":          {Op: impl.OpSRem, W: 8, A: 6, B: 7},
		"and 8 8 9":           {Op: impl.OpAnd, W: 8, A: 8, B: 9},
		"or 8 10 11":          {Op: impl.OpOr, W: 8, A: 10, B: 11},
		"xor 8 12 13":         {Op: impl.OpXor, W: 8, A: 12, B: 13},
		"shl 8 14 15":         {Op: impl.OpShl, W: 8, A: 14, B: 15},
		"lshr 8 16 17":        {Op: impl.OpLShr, W: 8, A: 16, B: 17},
		"ashr 8 18 19":        {Op: impl.OpAShr, W: 8, A: 18, B: 19},
		"eq 8 20 21":          {Op: impl.OpEq, W: 8, A: 20, B: 21},
		"ne 8 22 23":          {Op: impl.OpNe, W: 8, A: 22, B: 23},
		"ult 8 24 25":         {Op: impl.OpULt, W: 8, A: 24, B: 25},
		"slt 8 26 27":         {Op: impl.OpSLt, W: 8, A: 26, B: 27},
		"zext 16 28":          {Op: impl.OpZext, W: 16, A: 28},
		"sext 32 29":          {Op: impl.OpSext, W: 32, A: 29},
		"trunc 1 59":          {Op: impl.OpTrunc, W: 1, A: 59},
		"const 1 1":           {Op: impl.OpConst, W: 1, Imm: 1},
		"const 8 255":         {Op: impl.OpConst, W: 8, Imm: 255},
		"const 16 65535":      {Op: impl.OpConst, W: 16, Imm: 65535},
		"const 32 4294967295": {Op: impl.OpConst, W: 32, Imm: impl.MaxConst},
		"const 32 0":          {Op: impl.OpConst, W: 32},
		"select 8 1 2 3":      {Op: impl.OpSelect, W: 8, A: 1, B: 2, C: 3},
		"select 32 59 0 59":   {Op: impl.OpSelect, W: 32, A: 59, C: 59},
		"load 8 31":           {Op: impl.OpLoad, W: 8, A: 31},
		"store 0 32 33":       {Op: impl.OpStore, A: 32, B: 33},
		"print 0 34":          {Op: impl.OpPrint, A: 34},
		"call 16 0":           {Op: impl.OpCall, W: 16},
		"call 8 2 59 0 0 59":  {Op: impl.OpCall, W: 8, Imm: 2, Args: []int64{59, 0, 0, 59}},
		"call 1 1 7":          {Op: impl.OpCall, W: 1, Imm: 1, Args: []int64{7}},
		"copy 16 35":          {Op: impl.OpCopy, W: 16, A: 35},
		"const 32 2147483648": {Op: impl.OpConst, W: 32, Imm: 1 << 31},
		"call 32 2 10 20 30":  {Op: impl.OpCall, W: 32, Imm: 2, Args: []int64{10, 20, 30}},
		"const 16 10000":      {Op: impl.OpConst, W: 16, Imm: 10000},
		"select 1 10 0 0":     {Op: impl.OpSelect, W: 1, A: 10},
	}
}

func TestEachOpsText(t *testing.T) {
	seen := map[string]bool{}
	for s, i := range instTexts() {
		if got := impl.InstText(i); got != s {
			t.Errorf("%q %q", got, s)
		}
		if back, ok := impl.ReadInst(s); !ok || !sameInst(back, i) {
			t.Error(s, back, ok)
		}
		seen[strings.Split(s, " ")[0]] = true
	}
	for _, name := range opNames() {
		if !seen[name] {
			t.Error("not asked", name)
		}
	}
}

// strangeNumbers are around what ids, widths and places may be.
func strangeNumbers() []int64 {
	return []int64{math.MinInt64, -1, 0, 1, 2, 3, 8, 16, 32, 33, 58, 59, 60, 255, 256, 65535, 65536, impl.MaxConst, impl.MaxConst + 1, math.MaxInt64}
}

// What could not stand in the largest module has no text.
func TestInstructionsWithoutText(t *testing.T) {
	told := 0
	ask := func(i impl.Inst) {
		want := ""
		if impl.ShapeOk(standing(i)) {
			want = refInstText(i)
			told++
		}
		if got := impl.InstText(i); got != want {
			t.Errorf("%v %q %q", i, got, want)
		}
		if back, ok := impl.ReadInst(want); ok != (want != "") || ok && !sameInst(back, i) {
			t.Error(i, back, ok)
		}
	}
	for op := int64(-1); op <= 36; op++ {
		for _, n := range strangeNumbers() {
			base := impl.Inst{Op: op, W: 8}
			if op >= 1 && op <= 27 {
				base = rightInst(op)
			}
			for at := range 5 {
				i := copyInst(base)
				*[]*int64{&i.W, &i.A, &i.B, &i.C, &i.Imm}[at] = n
				ask(i)
			}
			for count := range 7 {
				i := copyInst(base)
				i.Args = make([]int64, count)
				for k := range i.Args {
					i.Args[k] = n
				}
				ask(i)
			}
		}
	}
	ask(impl.Inst{})
	ask(impl.Inst{Op: math.MinInt64, W: 8})
	ask(impl.Inst{Op: math.MaxInt64, W: 8})
	for _, w := range widths() {
		for _, v := range append(edgesOf(w), strangeValues(w)...) {
			ask(impl.Inst{Op: impl.OpConst, W: w, Imm: v})
		}
	}
	if told < 1000 {
		t.Error(told)
	}
}

func TestTextsOfNoInstruction(t *testing.T) {
	for _, s := range []string{
		"", " ", "  ", "\n", "8", "8 1 2", "add", "add ", "add 8", "add 8 1", "add 8 1 2 3", "Add 8 1 2", "ADD 8 1 2", "ad 8 1 2", "addd 8 1 2",
		"add 8 01 2", "add 08 1 2", "add 8 1 00", "add 8 1 02", "add 8 +1 2", "add 8 -1 2", "add 8 1 -0", "add 8 1 +0", "add 8 1 0x2", "add 8 1 2_", "add 8 1_0 2", "add 8 1.0 2", "add 8 1e1 2", "add 8 1 two",
		" add 8 1 2", "add  8 1 2", "add 8  1 2", "add 8 1  2", "add 8 1 2 ", "add 81 2", "add8 1 2", "add\t8 1 2", "add 8\t1 2", "add 8 1\n2", "add 8 1 2\n", "add 8 1 2\r", "\nadd 8 1 2", "add 8 1 2\x00", "add,8,1,2",
		"add 0 1 2", "add 2 1 2", "add 64 1 2", "add 8 60 1", "add 8 1 60", "add 8 100 1", "add 8 1 99999999999999999999", "add 8 18446744073709551617 1", "add 18446744073709551624 1 2",
		"const 8", "const 8 256", "const 1 2", "const 16 65536", "const 32 4294967296", "const 32 42949672950", "const 8 -1", "const 8 007", "const 8 1 1", "const 32 18446744073709551616", "const 0 0",
		"call 8", "call 8 3", "call 8 3 1", "call 0 1", "call 8 0 60", "call 8 0 0 0 0 0 0", "call 8 00", "call",
		"print 8 1", "print 0", "print 0 1 2", "print 1", "print", "store 8 1 2", "store 0 1", "store 0 1 2 3", "load 16 1", "load 0 1", "load 8", "load 8 1 2",
		"select 8 1 2", "select 8 1 2 3 4", "select 0 1 2 3", "zext 8", "zext 8 1 2", "copy 8", "copy 8 1 0", "trunc 0 1", "copy 8 60",
		"phi 8 1", "func 8", "block", "ret 1", "jump 1", "branch 1 2 3", "trap", "fly 8 1", "fly", "fly 8", " 8", " 8 1 2",
		"add 8 1 2 3 4 5 6 7 8 9", "add\x008 1 2", "àdd 8 1 2", "add 8 1 ２", strings.Repeat("add ", 5000), "add 8 1" + strings.Repeat(" 1", 30000), "add 8 " + strings.Repeat("1", 30000),
	} {
		if i, ok := impl.ReadInst(s); ok || !reflect.DeepEqual(i, impl.Inst{}) {
			t.Errorf("%.40q %v %v", s, i, ok)
		}
	}
}

func TestInstructionsByteByByte(t *testing.T) {
	read := 0
	for s := range instTexts() {
		for _, x := range edits(s, " 0123456789-+adlnuw\n\t\x00\xff") {
			want, is := refReadInst(x)
			got, ok := impl.ReadInst(x)
			if ok != is || !sameInst(got, want) {
				t.Fatalf("%q %v %v %v", x, got, ok, is)
			}
			if ok {
				read++
				if impl.InstText(got) != x {
					t.Fatalf("%q", x)
				}
			}
		}
	}
	if read < 500 {
		t.Error(read)
	}
}

const wideText = `func 8 32 8 1
block
const 8 255
add 8 1 3
slt 8 4 1
store 0 0 4
zext 16 1
eq 32 0 0
ashr 16 7 7
trunc 1 9
sext 32 1
ult 32 0 11
ne 1 10 12
xor 1 13 2
copy 32 11
print 0 15
sub 32 15 0
mul 32 15 17
const 32 7
udiv 32 18 19
sdiv 32 18 19
urem 32 18 19
srem 32 18 19
and 32 20 21
or 32 22 23
shl 32 24 25
lshr 32 26 19
branch 5 2 1
block
jump 2
block
phi 8 3 4
phi 1 5 2
load 8 0
select 8 29 28 30
call 8 0 0 31 29
branch 29 3 4
block
phi 16 7
ret 32
block
print 0 31
trap
`

func TestModuleTextByHand(t *testing.T) {
	m := alone(wideFunc())
	if s := impl.ModuleText(m); s != wideText {
		t.Error(s)
	}
	if back, ok := impl.ReadModule(wideText); !ok || !sameModule(back, m) {
		t.Error(back, ok)
	}
	m.Funcs = append(m.Funcs, impl.Func{Ret: 1, Blocks: []impl.Block{{Phis: []impl.Phi{{W: 16}}, Term: jumpTo(0)}}})
	s := wideText + "func 1\nblock\nphi 16\njump 0\n"
	if got := impl.ModuleText(m); got != s {
		t.Error(got)
	}
	if back, ok := impl.ReadModule(s); !ok || !sameModule(back, m) {
		t.Error(back, ok)
	}
}

// comesBack asks for the text, what is read of it, and that it is new memory.
func comesBack(t *testing.T, name any, m impl.Module) {
	s := impl.ModuleText(m)
	if s != refModuleText(m) {
		t.Fatalf("%v %q", name, s)
	}
	back, ok := impl.ReadModule(s)
	if !ok || !sameModule(back, m) || impl.ModuleText(back) != s {
		t.Fatal(name, ok, back, m)
	}
	if shareMemory(back, m) {
		t.Fatal(name, "shared")
	}
}

func TestModulesComeBackFromTexts(t *testing.T) {
	d := &dice{seed: 3}
	shaped := 0
	for seed := range uint64(300) {
		m := madeModule(seed)
		comesBack(t, seed, m)
		for range 5 {
			x := disturbed(m, d)
			if !impl.ShapeOk(x) {
				if s := impl.ModuleText(x); s != "" {
					t.Fatal(seed, s)
				}
				continue
			}
			shaped++
			comesBack(t, seed, x)
		}
	}
	if shaped < 500 {
		t.Error(shaped)
	}
}

// fullest has the longest text that a module in its form may have, or nearly.
func fullest() impl.Module {
	f := impl.Func{Ret: 32}
	for range impl.MaxBlocks {
		b := impl.Block{Term: branchOf(59, 9, 8)}
		for range impl.MaxValues / impl.MaxBlocks {
			p := impl.Phi{W: 32}
			for range impl.MaxBlocks {
				p.Ins = append(p.Ins, 59)
			}
			b.Phis = append(b.Phis, p)
		}
		f.Blocks = append(f.Blocks, b)
	}
	return repeated(f, impl.MaxFuncs)
}

// modulesAtLimits have as much of something as there may be.
func modulesAtLimits() map[string]impl.Module {
	return map[string]impl.Module{
		"an end alone":  alone(counted(0)),
		"3 functions":   repeated(wideFunc(), impl.MaxFuncs),
		"4 params":      withParams(impl.MaxParams),
		"10 blocks":     withBlocks(impl.MaxBlocks),
		"60 ids":        alone(counted(impl.MaxValues)),
		"60 ids of all": spread(impl.MaxValues),
		"no ins":        withIns(0, 0),
		"10 ins":        withIns(impl.MaxBlocks, 3),
		"4 args":        withArgs(impl.MaxParams, 4),
		"fullest":       fullest(),
		"great":         standing(impl.Inst{Op: impl.OpConst, W: 32, Imm: impl.MaxConst}),
	}
}

func modulesPastLimits() map[string]impl.Module {
	phi := counted(0)
	phi.Blocks[0].Phis = []impl.Phi{{W: 9}}
	end := counted(1)
	end.Blocks[0].Term = impl.Term{Kind: impl.TmTrap, A: 1}
	strange := counted(1)
	strange.Blocks[0].Term.Kind = 5
	noEnd := counted(1)
	noEnd.Blocks[0].Term = impl.Term{}
	return map[string]impl.Module{
		"none":         {},
		"empty":        {Funcs: []impl.Func{{}}},
		"4 functions":  repeated(counted(1), impl.MaxFuncs+1),
		"5 params":     withParams(impl.MaxParams + 1),
		"0 blocks":     withBlocks(0),
		"11 blocks":    withBlocks(impl.MaxBlocks + 1),
		"61 ids":       alone(counted(impl.MaxValues + 1)),
		"11 ins":       withIns(impl.MaxBlocks+1, 3),
		"no such id":   withIns(1, 4),
		"5 args":       withArgs(impl.MaxParams+1, 4),
		"phi":          alone(phi),
		"end":          alone(end),
		"strange end":  alone(strange),
		"no end":       alone(noEnd),
		"alike":        ending(branchOf(0, 1, 1)),
		"no such op":   holding(impl.Inst{Op: 28, W: 8}),
		"far op":       holding(impl.Inst{Op: math.MaxInt64, W: 8}),
		"no op":        holding(impl.Inst{Op: 0, W: 8}),
		"below ops":    holding(impl.Inst{Op: math.MinInt64, W: 8}),
		"great":        holding(impl.Inst{Op: impl.OpConst, W: 32, Imm: impl.MaxConst + 1}),
		"below 0":      holding(impl.Inst{Op: impl.OpConst, W: 32, Imm: -1}),
		"not used":     holding(impl.Inst{Op: impl.OpCopy, W: 8, B: 1}),
		"no such func": holding(impl.Inst{Op: impl.OpCall, W: 8, Imm: 2}),
	}
}

func TestTextsAtLimits(t *testing.T) {
	for name, m := range modulesAtLimits() {
		comesBack(t, name, m)
	}
	for name, m := range modulesPastLimits() {
		if s := impl.ModuleText(m); s != "" {
			t.Error(name, s)
		}
		// The text that it would have is no module's.
		if name == "none" || name == "not used" || strings.Contains(name, "op") || strings.Contains(name, "end") {
			continue
		}
		if x, ok := impl.ReadModule(refModuleText(m)); ok || !reflect.DeepEqual(x, impl.Module{}) {
			t.Error(name, x)
		}
	}
}

func TestTextsOfNoModule(t *testing.T) {
	for _, s := range []string{
		"", "\n", "\n\n", " ", "func", "func\n", "func 8", "func 8\n", "func 8\nblock", "func 8\nblock\n", "block\n", "trap\n", "block\ntrap\n", "phi 8\n", "const 8 0\n",
		"func 8\nblock\ntrap", "func 8\nblock\ntrap\n\n", "\nfunc 8\nblock\ntrap\n", "func 8\n\nblock\ntrap\n", "func 8\nblock\n\ntrap\n", "func 8\r\nblock\r\ntrap\r\n", "func 8\nblock\ntrap\r",
		"func 8\nblock\ntrap\ntrap\n", "func 8\nblock\ntrap\nphi 8\n", "func 8\nblock\ntrap\nconst 8 0\n", "func 8\ntrap\n", "func 8\nphi 8\nblock\ntrap\n",
		"func 8\nblock\nconst 8 0\nphi 8\ntrap\n", "func 8\nblock\nblock\ntrap\n", "func 8\nblock\ntrap\nblock\n", "func 8\nblock\ntrap\nfunc 8\n", "func 8\nfunc 8\nblock\ntrap\n", "func 8\nblock\nfunc 8\nblock\ntrap\n",
		"func \nblock\ntrap\n", "func\nblock\ntrap\n", "func 7\nblock\ntrap\n", "func 0\nblock\ntrap\n", "func 08\nblock\ntrap\n", "func +8\nblock\ntrap\n", "func -8\nblock\ntrap\n", "func 8 9\nblock\ntrap\n", "func 8 1 1 1 1 1\nblock\ntrap\n", "func 8 \nblock\ntrap\n", "func  8\nblock\ntrap\n", " func 8\nblock\ntrap\n", "Func 8\nblock\ntrap\n", "func8\nblock\ntrap\n",
		"func 8\nblock 0\ntrap\n", "func 8\nblock \ntrap\n", "func 8\n block\ntrap\n", "func 8\nblocks\ntrap\n", "func 8\nblock\nphi\ntrap\n", "func 8\nblock\nphi \ntrap\n", "func 8\nblock\nphi 8 1\ntrap\n", "func 8\nblock\nphi 9\ntrap\n", "func 8\nblock\nphi 8 00\ntrap\n",
		"func 8\nblock\ntrap 0\n", "func 8\nblock\ntrap \n", "func 8\nblock\nhalt\n", "func 8\nblock\nret 0\n", "func 8 8\nblock\nret\n", "func 8 8\nblock\nret 0 0\n", "func 8 8\nblock\nret 00\n", "func 8 8\nblock\nret 1\n", "func 8\nblock\njump\n", "func 8\nblock\njump 1\n", "func 8\nblock\njump 0 0\n", "func 8\nblock\njump -0\n",
		"func 8 1\nblock\nbranch 0 0 0\n", "func 8 1\nblock\nbranch 0 0 1\n", "func 8 1\nblock\nbranch 0 0 1\nblock\nbranch 0 0\n", "func 8 1\nblock\nbranch 0 0 1\nblock\nbranch 0\n", "func 8 1\nblock\nbranch 0 0 1\nblock\nbranch\n", "func 8 1\nblock\nbranch 0 0 1\nblock\nbranch 0 0 1 0\n", "func 8 1\nblock\nbranch 1 0 1\nblock\ntrap\n",
		"func 8\nblock\nconst 8 256\ntrap\n", "func 8\nblock\nconst 8 00\ntrap\n", "func 8\nblock\nadd 8 0 1\ntrap\n", "func 8\nblock\ncall 8 1\ntrap\n", "func 8\nblock\nconst 8 4294967296\ntrap\n", "func 8\nblock\nconst 32 4294967296\ntrap\n", "func 8\nblock\nfly 8\ntrap\n", "func 8\nblock\nconst 8\ntrap\n", "func 8\nblock\n8\ntrap\n",
		strings.Repeat("func 8\nblock\ntrap\n", 4), strings.Repeat("func 8\nblock\ntrap\n", 1000), "func 8\n" + strings.Repeat("block\ntrap\n", 11), "func 8\nblock\n" + strings.Repeat("const 8 0\n", 61) + "trap\n",
	} {
		if _, is := refReadModule(s); is {
			t.Errorf("%.60q is one", s)
		}
		if m, ok := impl.ReadModule(s); ok || !reflect.DeepEqual(m, impl.Module{}) {
			t.Errorf("%.60q %v", s, m)
		}
	}
}

// No module in its form has a text near the limit of what is read, so a text
// that meets it, or passes it by one, is none; what is read ends well.
func TestLongTexts(t *testing.T) {
	long := impl.ModuleText(fullest())
	if len(long) < 6000 || len(long) > 20000 {
		t.Error(len(long))
	}
	head, tail := "func 8\nblock\n", "trap\n"
	for _, fill := range []string{" ", "\n", "0", "const 8 0\n", "phi 8\n", "block\ntrap\n", "func 8\nblock\ntrap\n", "x", "\x00", "add "} {
		for _, size := range []int{19999, 20000, 20001, 40000, 300000} {
			n := size - len(head) - len(tail)
			for _, s := range []string{
				head + strings.Repeat(fill, n/len(fill)+1)[:n] + tail,
				strings.Repeat(fill, size),
				long + strings.Repeat(fill, size)[:size-len(long)],
				"func 8 " + strings.Repeat(fill, size)[:size-len(tail)-7] + tail,
			} {
				if m, ok := impl.ReadModule(s); ok || !reflect.DeepEqual(m, impl.Module{}) {
					t.Errorf("%q %d", fill, size)
				}
			}
		}
	}
}

func TestModulesByteByByte(t *testing.T) {
	read := 0
	texts := []string{wideText, impl.ModuleText(calledModule()), "func 8\nblock\ntrap\n", "func 1 1 8\nblock\nbranch 0 1 2\nblock\njump 2\nblock\nphi 1 0 0\nret 2\n"}
	for _, s := range texts {
		for _, x := range edits(s, " 0189-k\n") {
			want, is := refReadModule(x)
			got, ok := impl.ReadModule(x)
			if ok != is || !sameModule(got, want) {
				t.Fatalf("%q %v %v %v", x, got, ok, is)
			}
			if ok {
				read++
			}
		}
	}
	if read < 200 {
		t.Error(read)
	}
}

// Lines gone, said twice, or in another order.
func TestModulesLineByLine(t *testing.T) {
	read := 0
	d := &dice{seed: 17}
	for seed := range uint64(60) {
		lines := strings.SplitAfter(impl.ModuleText(madeModule(seed)), "\n")
		lines = lines[:len(lines)-1]
		for range 60 {
			l := append([]string(nil), lines...)
			a, b := d.below(int64(len(l))), d.below(int64(len(l)))
			switch d.below(3) {
			case 0:
				l = append(l[:a], l[a+1:]...)
			case 1:
				l = append(l, l[b])
			default:
				l[a], l[b] = l[b], l[a]
			}
			s := strings.Join(l, "")
			want, is := refReadModule(s)
			got, ok := impl.ReadModule(s)
			if ok != is || !sameModule(got, want) {
				t.Fatalf("%q %v %v", s, ok, is)
			}
			if ok {
				read++
			}
		}
	}
	if read < 200 {
		t.Error(read)
	}
}

func TestTextsWriteNothing(t *testing.T) {
	m := impl.Module{Funcs: []impl.Func{wideFunc(), counted(3)}}
	spare := []int64{8, 16, 77, 78}
	m.Funcs[1].Params = spare[:2]
	was := copyModule(m)
	i := impl.Inst{Op: impl.OpCall, W: 8, Args: []int64{1, 2, 55, 56}[:2]}
	for range 2 {
		comesBack(t, "twice", m)
		if impl.InstText(i) != "call 8 0 1 2" || !sameList(i.Args[:4], []int64{1, 2, 55, 56}) {
			t.Error(i)
		}
	}
	if !sameModule(m, was) || !sameList(spare, []int64{8, 16, 77, 78}) {
		t.Error("written into", m, spare)
	}
	a, _ := impl.ReadInst("call 8 0 1 2")
	b, _ := impl.ReadInst("call 8 0 1 2")
	if shareMemory(a, b) {
		t.Error("shared")
	}
}
