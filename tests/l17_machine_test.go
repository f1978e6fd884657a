package tests

import (
	"math"
	"slices"
	"strings"
	"testing"

	"loop.example/g00457/impl"
)

// wideProgram has four parameters of 32 bits in the registers 0 .. 3, and ten
// registers in all.
func wideProgram(code ...impl.MIns) impl.Program {
	return impl.Program{Regs: 10, Params: []int64{0, 1, 2, 3}, Widths: []int64{32, 32, 32, 32}, Code: code}
}

// machineTo asks for a run of a program that has to be right, and all of what
// it leaves.
func machineTo(t *testing.T, p impl.Program, args []int64, mem string, fuel int64, want impl.Result) {
	t.Helper()
	if !impl.ProgramOk(p) {
		t.Fatal(programText(p))
	}
	if got := impl.MachineRun(p, args, mem, fuel); !sameResult(got, want) {
		t.Errorf("%q %v %d: %#v, not %#v", programText(p), args, fuel, got, want)
	}
}

// given is a run of one instruction, which gives into register 4, of which all
// is given back.
func given(t *testing.T, i impl.MIns, args []int64, want impl.Result) {
	t.Helper()
	i.D = 4
	machineTo(t, wideProgram(i, impl.MIns{Op: impl.MvRet, W: 32, A: 4}), args, noughts(), 9, want)
}

// wholes are values of 32 bits of which the lower bits are edges of all widths.
func wholes() []int64 {
	var l []int64
	for _, w := range widths() {
		for _, v := range edgesOf(w) {
			l = append(l, v, v|1<<8, v|1<<31, v|0xABCD0000)
		}
	}
	slices.Sort(l)
	return slices.Compact(l)
}

func TestMachineOpsOnTwo(t *testing.T) {
	zeros := 0
	for op := int64(impl.OpAdd); op <= impl.OpSLt; op++ {
		for _, w := range widths() {
			for k, a := range wholes() {
				b := wholes()[(7*k+int(op))%len(wholes())]
				for _, b := range []int64{b, a, 0, 1, w, 1 << 8, 1<<16 + 1, impl.MaxConst} {
					v, code := impl.Binary(op, w, a%(topOf(w)+1), b%(topOf(w)+1))
					want := done(v, 2)
					if code == impl.BnZero {
						want = impl.Result{Code: impl.RsZero, Mem: noughts(), Steps: 1}
						zeros++
					}
					given(t, impl.MIns{Op: op, W: w, A: 2, B: 1}, []int64{9, b, a, 9}, want)
				}
			}
		}
	}
	if zeros < 100 {
		t.Error(zeros)
	}
}

func TestMachineOpsByHand(t *testing.T) {
	// 456 is 200 in eight bits, 356 is 100.
	for op, want := range map[int64]int64{
		impl.OpAdd: 44, impl.OpSub: 100, impl.OpMul: 32, impl.OpUDiv: 2, impl.OpSDiv: 0, impl.OpURem: 0, impl.OpSRem: 200,
		impl.OpAnd: 64, impl.OpOr: 236, impl.OpXor: 172, impl.OpShl: 0, impl.OpLShr: 0, impl.OpAShr: 255,
		impl.OpEq: 0, impl.OpNe: 1, impl.OpULt: 0, impl.OpSLt: 1,
	} {
		given(t, impl.MIns{Op: op, W: 8, A: 0, B: 1}, []int64{456, 356, 0, 0}, done(want, 2))
	}
	// What is 0 as far as it is used is 0.
	for _, op := range []int64{impl.OpUDiv, impl.OpSDiv, impl.OpURem, impl.OpSRem} {
		given(t, impl.MIns{Op: op, W: 8, A: 0, B: 1}, []int64{5, 256, 0, 0}, impl.Result{Code: impl.RsZero, Mem: noughts(), Steps: 1})
		given(t, impl.MIns{Op: op, W: 16, A: 0, B: 1}, []int64{256, 256, 0, 0}, done(map[bool]int64{true: 1}[op <= impl.OpSDiv], 2))
	}
	given(t, impl.MIns{Op: impl.OpEq, W: 8, A: 0, B: 1}, []int64{511, 255, 0, 0}, done(1, 2))
	given(t, impl.MIns{Op: impl.OpEq, W: 16, A: 0, B: 1}, []int64{511, 255, 0, 0}, done(0, 2))
}

func TestMachineCasts(t *testing.T) {
	for op := int64(impl.OpZext); op <= impl.OpTrunc; op++ {
		for _, from := range widths() {
			for _, to := range widths() {
				if (op == impl.OpTrunc) != (to < from) || from == to {
					continue
				}
				for _, a := range wholes() {
					v, _ := impl.Casted(op, from, to, a%(topOf(from)+1))
					given(t, impl.MIns{Op: op, W: to, A: 1, C: from}, []int64{9, a, 9, 9}, done(v, 2))
				}
			}
		}
	}
	given(t, impl.MIns{Op: impl.OpSext, W: 32, A: 0, C: 8}, []int64{384, 0, 0, 0}, done(4294967168, 2))
	given(t, impl.MIns{Op: impl.OpZext, W: 16, A: 0, C: 8}, []int64{511, 0, 0, 0}, done(255, 2))
}

func TestMachineConstAndMove(t *testing.T) {
	for _, w := range widths() {
		for _, v := range edgesOf(w) {
			given(t, impl.MIns{Op: impl.OpConst, W: w, Imm: v}, make([]int64, 4), done(v, 2))
		}
		for _, a := range wholes() {
			given(t, impl.MIns{Op: impl.MvMove, W: w, A: 3}, []int64{9, 9, 9, a}, done(a%(topOf(w)+1), 2))
			machineTo(t, wideProgram(impl.MIns{Op: impl.MvRet, W: w, A: 3}), []int64{9, 9, 9, a}, noughts(), 1, done(a%(topOf(w)+1), 1))
		}
	}
}

// Only the lowest bit of what is asked counts, and the width is cut to at the
// end.
func TestMachineSelectAndIf(t *testing.T) {
	for _, a := range wholes() {
		for _, w := range widths() {
			for _, v := range []int64{impl.MaxConst, 1 << 16, 1<<16 + 300, 255, 1, 0} {
				want := v % (topOf(w) + 1)
				if a%2 == 0 {
					want = 7 % (topOf(w) + 1)
				}
				given(t, impl.MIns{Op: impl.OpSelect, W: w, A: 3, B: 1, C: 2}, []int64{9, v, 7, a}, done(want, 2))
			}
		}
		p := wideProgram(impl.MIns{Op: impl.MvIf, A: 3, Imm: 2}, impl.MIns{Op: impl.MvRet, W: 8, A: 1}, impl.MIns{Op: impl.MvRet, W: 8, A: 2})
		machineTo(t, p, []int64{9, 4, 5, a}, noughts(), 9, done(4+a%2, 2))
	}
	// By hand: 2 and 256 are no 1, 3 and 257 are one.
	for a, want := range map[int64]int64{0: 5, 1: 4, 2: 5, 3: 4, 256: 5, 257: 4, impl.MaxConst: 4, impl.MaxConst - 1: 5} {
		given(t, impl.MIns{Op: impl.OpSelect, W: 8, A: 0, B: 1, C: 2}, []int64{a, 4, 5, 0}, done(want, 2))
	}
	// To itself, on, and back.
	machineTo(t, wideProgram(impl.MIns{Op: impl.MvIf, A: 0, Imm: 0}, impl.MIns{Op: impl.MvTrap}), []int64{1, 0, 0, 0}, noughts(), 50, impl.Result{Code: impl.RsFuel, Mem: noughts(), Steps: 50})
	machineTo(t, wideProgram(impl.MIns{Op: impl.MvIf, A: 0, Imm: 1}, impl.MIns{Op: impl.MvTrap}), []int64{1, 0, 0, 0}, noughts(), 50, impl.Result{Code: impl.RsTrap, Mem: noughts(), Steps: 2})
	back := wideProgram(impl.MIns{Op: impl.MvJump, Imm: 2}, impl.MIns{Op: impl.MvRet, W: 8, A: 1}, impl.MIns{Op: impl.MvIf, A: 0, Imm: 1}, impl.MIns{Op: impl.MvTrap})
	machineTo(t, back, []int64{1, 66, 0, 0}, noughts(), 50, done(66, 3))
	machineTo(t, back, []int64{0, 66, 0, 0}, noughts(), 50, impl.Result{Code: impl.RsTrap, Mem: noughts(), Steps: 3})
}

func TestMachineMemory(t *testing.T) {
	mem := countedMem()
	load := wideProgram(impl.MIns{Op: impl.OpLoad, W: 8, D: 4, A: 0}, impl.MIns{Op: impl.MvRet, W: 32, A: 4})
	store := wideProgram(impl.MIns{Op: impl.OpStore, A: 0, B: 1}, impl.MIns{Op: impl.OpLoad, W: 8, D: 4, A: 0}, impl.MIns{Op: impl.MvRet, W: 32, A: 4})
	for at := range int64(impl.MemSize) {
		machineTo(t, load, []int64{at, 0, 0, 0}, mem, 9, impl.Result{Value: int64(mem[at]), Mem: mem, Steps: 2})
		for _, v := range []int64{0, 1, 255, 256, 511, 0x1234, impl.MaxConst} {
			machineTo(t, store, []int64{at, v, 0, 0}, mem, 9, impl.Result{Value: v % 256, Mem: stored(mem, at, v%256), Steps: 3})
		}
	}
	// All of A counts: 256 is not 0.
	for _, at := range []int64{impl.MemSize, impl.MemSize + 1, 64, 255, 256, 65536, 1 << 31, impl.MaxConst} {
		machineTo(t, load, []int64{at, 0, 0, 0}, mem, 9, impl.Result{Code: impl.RsBounds, Mem: mem, Steps: 1})
		machineTo(t, store, []int64{at, 5, 0, 0}, mem, 9, impl.Result{Code: impl.RsBounds, Mem: mem, Steps: 1})
	}
}

func TestMachineTells(t *testing.T) {
	// All of a register, whatever its width was.
	p := wideProgram(impl.MIns{Op: impl.OpPrint, A: 0}, impl.MIns{Op: impl.OpPrint, A: 1}, impl.MIns{Op: impl.OpPrint, A: 9}, impl.MIns{Op: impl.OpPrint, A: 0}, impl.MIns{Op: impl.MvRet, W: 1, A: 0})
	machineTo(t, p, []int64{impl.MaxConst, 300, 0, 0}, noughts(), 9, impl.Result{Value: 1, Out: []int64{impl.MaxConst, 300, 0, impl.MaxConst}, Mem: noughts(), Steps: 5})
	var out []int64
	for n := range impl.MaxOut + 1 {
		code := slices.Repeat([]impl.MIns{{Op: impl.OpPrint, A: 2}}, n)
		machineTo(t, wideProgram(append(code, impl.MIns{Op: impl.MvRet, W: 16, A: 2})...), []int64{0, 0, 777, 0}, noughts(), 99, impl.Result{Value: 777, Out: out, Mem: noughts(), Steps: int64(n) + 1})
		out = append(out, 777)
	}
	full := impl.Result{Code: impl.RsFull, Out: out[:impl.MaxOut], Mem: noughts(), Steps: impl.MaxOut + 1}
	machineTo(t, wideProgram(impl.MIns{Op: impl.OpPrint, A: 2}, impl.MIns{Op: impl.MvJump, Imm: 0}), []int64{0, 0, 777, 0}, noughts(), 999, impl.Result{Code: impl.RsFull, Out: full.Out, Mem: noughts(), Steps: 2*impl.MaxOut + 1})
	code := slices.Repeat([]impl.MIns{{Op: impl.OpPrint, A: 2}}, impl.MaxOut+1)
	machineTo(t, wideProgram(append(code, impl.MIns{Op: impl.MvTrap})...), []int64{0, 0, 777, 0}, noughts(), 99, full)
}

// What gives nothing leaves all registers as they are, the first one too.
func TestMachineRegisters(t *testing.T) {
	for _, i := range []impl.MIns{{Op: impl.OpStore, A: 1, B: 2}, {Op: impl.OpPrint, A: 2}, {Op: impl.MvIf, A: 1, Imm: 1}, {Op: impl.MvIf, A: 2, Imm: 1}, {Op: impl.MvJump, Imm: 1}} {
		for reg, want := range []int64{70000, 5, 8, 4, 0, 0, 0, 0, 0, 0} {
			p := wideProgram(i, impl.MIns{Op: impl.MvRet, W: 32, A: int64(reg)})
			if r := impl.MachineRun(p, []int64{70000, 5, 8, 4}, noughts(), 9); r.Code != impl.RsDone || r.Value != want {
				t.Error(i, reg, r)
			}
		}
	}
	// What is written into the register that is read, and into all others.
	for d := range int64(10) {
		p := wideProgram(impl.MIns{Op: impl.OpAdd, W: 32, D: d, A: 1, B: 1}, impl.MIns{Op: impl.OpSub, W: 32, D: 9, A: d, B: 1}, impl.MIns{Op: impl.MvRet, W: 32, A: 9})
		want := done(500, 3)
		if d == 1 {
			want.Value = 0
		}
		machineTo(t, p, []int64{1, 500, 3, 4}, noughts(), 9, want)
	}
	// As many registers as there may be: all are 0 at first.
	p := impl.Program{Regs: impl.MaxRegs, Params: []int64{impl.MaxRegs - 1}, Widths: []int64{8}}
	for reg := range int64(impl.MaxRegs) {
		p.Code = []impl.MIns{{Op: impl.OpConst, W: 8, D: (reg + 1) % impl.MaxRegs, Imm: 99}, {Op: impl.MvRet, W: 32, A: reg}}
		want := done(0, 2)
		if reg == impl.MaxRegs-1 {
			want.Value = 45
		}
		machineTo(t, p, []int64{45}, noughts(), 9, want)
	}
	// Of two parameters in one register the last one is there.
	twice := impl.Program{Regs: 2, Params: []int64{1, 1, 0, 1}, Widths: []int64{32, 16, 8, 8}, Code: []impl.MIns{{Op: impl.OpPrint, A: 0}, {Op: impl.MvRet, W: 32, A: 1}}}
	machineTo(t, twice, []int64{70000, 700, 8, 7}, noughts(), 9, impl.Result{Value: 7, Out: []int64{8}, Mem: noughts(), Steps: 2})
}

func TestMachineCodesAndWhatStandsBesideThem(t *testing.T) {
	mem := countedMem()
	ahead := []impl.MIns{{Op: impl.OpStore, A: 0, B: 1}, {Op: impl.OpPrint, A: 1}, {Op: impl.OpPrint, A: 0}}
	left := impl.Result{Out: []int64{77, 5}, Mem: stored(mem, 5, 77)}
	for _, c := range []struct {
		code  []impl.MIns
		ends  int64
		value int64
		steps int64
	}{
		{[]impl.MIns{{Op: impl.MvRet, W: 8, A: 1}}, impl.RsDone, 77, 4},
		{[]impl.MIns{{Op: impl.MvTrap}}, impl.RsTrap, 0, 4},
		{[]impl.MIns{{Op: impl.OpUDiv, W: 8, A: 1, B: 2}, {Op: impl.MvTrap}}, impl.RsZero, 0, 4},
		{[]impl.MIns{{Op: impl.OpSRem, W: 8, A: 1, B: 2}, {Op: impl.MvTrap}}, impl.RsZero, 0, 4},
		{[]impl.MIns{{Op: impl.OpLoad, W: 8, A: 3}, {Op: impl.MvTrap}}, impl.RsBounds, 0, 4},
		{[]impl.MIns{{Op: impl.OpStore, A: 3}, {Op: impl.MvTrap}}, impl.RsBounds, 0, 4},
		{[]impl.MIns{{Op: impl.MvJump, Imm: 3}}, impl.RsFuel, 0, 200},
	} {
		want := left
		want.Code, want.Value, want.Steps = c.ends, c.value, c.steps
		machineTo(t, wideProgram(append(slices.Clone(ahead), c.code...)...), []int64{5, 77, 0, 32}, mem, 200, want)
		// With as many steps as it makes it ends so, too; with one less it does not come there.
		machineTo(t, wideProgram(append(slices.Clone(ahead), c.code...)...), []int64{5, 77, 0, 32}, mem, c.steps, want)
		want.Code, want.Value, want.Steps = impl.RsFuel, 0, c.steps-1
		machineTo(t, wideProgram(append(slices.Clone(ahead), c.code...)...), []int64{5, 77, 0, 32}, mem, c.steps-1, want)
	}
}

func TestMachineFuel(t *testing.T) {
	p := wideProgram(impl.MIns{Op: impl.OpStore, A: 0, B: 1}, impl.MIns{Op: impl.OpPrint, A: 1}, impl.MIns{Op: impl.MvRet, W: 8, A: 1})
	args := []int64{3, 9, 0, 0}
	mem, with := noughts(), stored(noughts(), 3, 9)
	for fuel, want := range []impl.Result{
		{Code: impl.RsFuel, Mem: mem},
		{Code: impl.RsFuel, Mem: with, Steps: 1},
		{Code: impl.RsFuel, Out: []int64{9}, Mem: with, Steps: 2},
		{Value: 9, Out: []int64{9}, Mem: with, Steps: 3},
		{Value: 9, Out: []int64{9}, Mem: with, Steps: 3},
	} {
		machineTo(t, p, args, mem, int64(fuel), want)
	}
	machineTo(t, p, args, mem, 10*impl.MaxFuel, impl.Result{Value: 9, Out: []int64{9}, Mem: with, Steps: 3})
	for _, fuel := range []int64{math.MinInt64, -1, 10*impl.MaxFuel + 1, math.MaxInt64} {
		machineTo(t, p, args, mem, fuel, impl.Result{Code: impl.RsForm})
	}
	round := impl.Program{Regs: 1, Code: []impl.MIns{{Op: impl.MvJump}}}
	for _, fuel := range []int64{0, 1, impl.MaxFuel, impl.MaxFuel + 1, 10*impl.MaxFuel - 1, 10 * impl.MaxFuel} {
		machineTo(t, round, nil, mem, fuel, impl.Result{Code: impl.RsFuel, Mem: mem, Steps: fuel})
	}
	// A run that takes just as long as there may be fuel: one step ahead of the loop, one behind it, and 6666 times three.
	count := wideProgram(
		impl.MIns{Op: impl.OpConst, W: 16, D: 1, Imm: 1},
		impl.MIns{Op: impl.OpSub, W: 16, D: 0, A: 0, B: 1},
		impl.MIns{Op: impl.OpNe, W: 16, D: 4, A: 0, B: 5},
		impl.MIns{Op: impl.MvIf, A: 4, Imm: 1},
		impl.MIns{Op: impl.MvRet, W: 16, A: 0},
	)
	machineTo(t, count, []int64{6666, 0, 0, 0}, mem, 10*impl.MaxFuel, done(0, 10*impl.MaxFuel))
	machineTo(t, count, []int64{6666, 0, 0, 0}, mem, 10*impl.MaxFuel-1, impl.Result{Code: impl.RsFuel, Mem: mem, Steps: 10*impl.MaxFuel - 1})
	machineTo(t, count, []int64{6667, 0, 0, 0}, mem, 10*impl.MaxFuel, impl.Result{Code: impl.RsFuel, Mem: mem, Steps: 10 * impl.MaxFuel})
}

func TestMachineArgs(t *testing.T) {
	for _, w := range widths() {
		p := impl.Program{Regs: 1, Params: []int64{0}, Widths: []int64{w}, Code: []impl.MIns{{Op: impl.MvRet, W: 32}}}
		for _, v := range edgesOf(w) {
			machineTo(t, p, []int64{v}, noughts(), 9, done(v, 1))
		}
		for _, v := range strangeValues(w) {
			machineTo(t, p, []int64{v}, noughts(), 9, impl.Result{Code: impl.RsForm})
		}
		for _, l := range [][]int64{nil, {}, {1, 1}, {0, 0, 0, 0, 0}} {
			machineTo(t, p, l, noughts(), 9, impl.Result{Code: impl.RsForm})
		}
	}
	all := impl.Program{Regs: 4, Params: []int64{3, 2, 1, 0}, Widths: widths(), Code: []impl.MIns{{Op: impl.MvRet, W: 32}}}
	right := []int64{1, 255, 65535, impl.MaxConst}
	machineTo(t, all, right, noughts(), 9, done(impl.MaxConst, 1))
	for at := range right {
		for _, v := range []int64{-1, right[at] + 1} {
			l := copyList(right)
			l[at] = v
			machineTo(t, all, l, noughts(), 9, impl.Result{Code: impl.RsForm})
		}
		machineTo(t, all, right[:at], noughts(), 9, impl.Result{Code: impl.RsForm})
	}
	machineTo(t, all, append(copyList(right), 0), noughts(), 9, impl.Result{Code: impl.RsForm})
	none := impl.Program{Regs: 1, Code: []impl.MIns{{Op: impl.MvTrap}}}
	machineTo(t, none, nil, noughts(), 9, impl.Result{Code: impl.RsTrap, Mem: noughts(), Steps: 1})
	machineTo(t, none, []int64{0}, noughts(), 9, impl.Result{Code: impl.RsForm})
	for _, n := range []int{0, 1, 31, 33, 64, 100000} {
		machineTo(t, none, nil, strings.Repeat("\x07", n), 9, impl.Result{Code: impl.RsForm})
	}
	whole := strings.Repeat("\xff", impl.MemSize)
	machineTo(t, none, nil, whole, 9, impl.Result{Code: impl.RsTrap, Mem: whole, Steps: 1})
}

func TestProgramsThatAreNotRun(t *testing.T) {
	d := &dice{seed: 96}
	wrong := 0
	for seed := range uint64(200) {
		p := disturbedProgram(madeProgram(seed), d)
		if refProgramOk(p) {
			continue
		}
		wrong++
		for _, args := range [][]int64{nil, make([]int64, len(p.Params)), make([]int64, len(p.Widths))} {
			if r := impl.MachineRun(p, args, noughts(), 9); !isFormAlone(r) {
				t.Fatal(programText(p), r)
			}
		}
	}
	if wrong < 50 || !isFormAlone(impl.MachineRun(impl.Program{}, nil, noughts(), 9)) {
		t.Error(wrong)
	}
}

// programArgs are some for a program.
func programArgs(p impl.Program, d *dice) []int64 {
	var l []int64
	for _, w := range p.Widths {
		l = append(l, d.oneOf(edgesOf(w)))
	}
	return l
}

func TestMachineAgainstOtherWays(t *testing.T) {
	d := &dice{seed: 97}
	codes := map[int64]int{}
	for seed := range uint64(4000) {
		p := madeProgram(seed)
		args := programArgs(p, d)
		for _, fuel := range []int64{0, 1, int64(seed % 40), 300} {
			got, want := impl.MachineRun(p, args, countedMem(), fuel), refMachineRun(p, args, countedMem(), fuel)
			if !sameResult(got, want) {
				t.Fatal(programText(p), args, fuel, got, want)
			}
			codes[got.Code]++
		}
	}
	for code := int64(impl.RsDone); code <= impl.RsFull; code++ {
		if code != impl.RsForm && code != impl.RsDeep && codes[code] < 20 {
			t.Error("too few runs end so", code, codes)
		}
	}
}

// No more steps than there is fuel for; what ends without fuel being short
// ends so with any more.
func TestMoreFuelEndsTheMachineTheSame(t *testing.T) {
	d := &dice{seed: 98}
	for seed := range uint64(300) {
		p := madeProgram(seed)
		args := programArgs(p, d)
		most := impl.MachineRun(p, args, noughts(), 10*impl.MaxFuel)
		for _, fuel := range []int64{0, 1, 2, 5, most.Steps - 1, most.Steps, most.Steps + 1, impl.MaxFuel} {
			if fuel < 0 || fuel > 10*impl.MaxFuel {
				continue
			}
			got := impl.MachineRun(p, args, noughts(), fuel)
			if fuel >= most.Steps && !sameResult(got, most) {
				t.Fatal(programText(p), fuel, got, most)
			}
			if fuel < most.Steps && (got.Code != impl.RsFuel || got.Steps != fuel || got.Value != 0 || !sameList(got.Out, most.Out[:len(got.Out)])) {
				t.Fatal(programText(p), fuel, got, most)
			}
		}
	}
}

// Programs that were written and read run as they did.
func TestProgramsThatComeBackRunTheSame(t *testing.T) {
	d := &dice{seed: 99}
	for seed := range uint64(200) {
		p := madeProgram(seed)
		back, ok := impl.ReadProgram(impl.ProgramBytes(p))
		args := programArgs(p, d)
		if !ok || !sameResult(impl.MachineRun(p, args, countedMem(), 200), impl.MachineRun(back, args, countedMem(), 200)) {
			t.Fatal(programText(p))
		}
	}
}

func TestMachineWritesNothing(t *testing.T) {
	d := &dice{seed: 100}
	for seed := range uint64(100) {
		p := madeProgram(seed)
		p.Params, p.Widths = roomyList(p.Params), roomyList(p.Widths)
		was := copyProgram(p)
		args := programArgs(p, d)
		room := append(copyList(args), 5, 6, 7)
		first := impl.MachineRun(p, room[:len(args)], countedMem(), 500)
		kept := copyList(first.Out)
		second := impl.MachineRun(p, args, countedMem(), 500)
		if !sameResult(first, second) || !sameList(kept, first.Out) || shareMemory(first, second, p, room) {
			t.Fatal(first, second)
		}
		if !sameProgram(p, was) || !sameList(room, append(copyList(args), 5, 6, 7)) {
			t.Fatal("written", programText(p), room)
		}
	}
}
