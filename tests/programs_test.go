package tests

import (
	"encoding/binary"
	"strconv"
	"strings"

	"loop.example/g00457/impl"
)

// machineOps are the ops that a program may have.
func machineOps() []int64 {
	var l []int64
	for op := int64(impl.OpAdd); op <= impl.OpPrint; op++ {
		l = append(l, op)
	}
	return append(l, impl.MvJump, impl.MvIf, impl.MvRet, impl.MvTrap, impl.MvMove)
}

func isCast(op int64) bool { return op >= impl.OpZext && op <= impl.OpTrunc }

// endsCode says which ops may be the last one's.
func endsCode(op int64) bool {
	return op == impl.MvJump || op == impl.MvRet || op == impl.MvTrap
}

// usedFields are those that an op uses, each by its first letter.
func usedFields(op int64) string {
	switch {
	case op >= impl.OpAdd && op <= impl.OpSLt:
		return "WDAB"
	case isCast(op):
		return "WDAC"
	}
	return map[int64]string{
		impl.OpConst: "WDI", impl.OpSelect: "WDABC", impl.OpLoad: "WDA", impl.OpStore: "AB", impl.OpPrint: "A",
		impl.MvJump: "I", impl.MvIf: "AI", impl.MvRet: "WA", impl.MvTrap: "", impl.MvMove: "WDA",
	}[op]
}

func fieldOf(i *impl.MIns, name rune) *int64 {
	return map[rune]*int64{'W': &i.W, 'D': &i.D, 'A': &i.A, 'B': &i.B, 'C': &i.C, 'I': &i.Imm}[name]
}

// rightMIns has the greatest register wherever it uses one, and the greatest
// value.
func rightMIns(op int64, regs int64) impl.MIns {
	i := impl.MIns{Op: op}
	for _, name := range usedFields(op) {
		*fieldOf(&i, name) = regs - 1
	}
	if strings.Contains(usedFields(op), "W") {
		i.W = 8
	}
	switch op {
	case impl.OpZext, impl.OpSext:
		i.C = 1
	case impl.OpTrunc:
		i.C = 32
	case impl.OpConst:
		i.Imm = 255
	case impl.MvJump, impl.MvIf:
		i.Imm = 1
	}
	return i
}

// holdingMIns is a program of that one and an end.
func holdingMIns(i impl.MIns, regs int64) impl.Program {
	return impl.Program{Regs: regs, Code: []impl.MIns{i, {Op: impl.MvTrap}}}
}

func copyProgram(p impl.Program) impl.Program {
	return impl.Program{Regs: p.Regs, Params: copyList(p.Params), Widths: copyList(p.Widths), Code: append([]impl.MIns(nil), p.Code...)}
}

func sameProgram(a, b impl.Program) bool {
	return a.Regs == b.Regs && sameList(a.Params, b.Params) && sameList(a.Widths, b.Widths) && codeText(a.Code) == codeText(b.Code)
}

func isNoProgram(p impl.Program) bool { return sameProgram(p, impl.Program{}) }

// codeText has what each one uses, and what it has elsewhere behind a !.
func codeText(code []impl.MIns) string {
	var l []string
	for _, i := range code {
		var numbers, elsewhere []int64
		for _, name := range "WDABCI" {
			n := *fieldOf(&i, name)
			if strings.ContainsRune(usedFields(i.Op), name) {
				numbers = append(numbers, n)
			} else if n != 0 {
				elsewhere = append(elsewhere, int64(name), n)
			}
		}
		text := machineWord(i.Op) + refNumbers(numbers)
		if len(elsewhere) > 0 {
			text += " !" + refNumbers(elsewhere)
		}
		l = append(l, text)
	}
	return strings.Join(l, "; ")
}

func machineWord(op int64) string {
	switch {
	case op >= impl.OpAdd && op <= impl.OpCopy:
		return opNames()[op-1]
	case op >= impl.MvJump && op <= impl.MvMove:
		return []string{"jump", "if", "ret", "trap", "move"}[op-impl.MvJump]
	}
	return "op" + strconv.FormatInt(op, 10)
}

func programText(p impl.Program) string {
	return strconv.FormatInt(p.Regs, 10) + " |" + refNumbers(p.Params) + " |" + refNumbers(p.Widths) + " | " + codeText(p.Code)
}

// refMInsOk says, in the document's words, of one of a program.
func refMInsOk(i impl.MIns, regs int64, places int64) bool {
	known := has(machineOps(), i.Op)
	for _, name := range "WDABCI" {
		n := *fieldOf(&i, name)
		switch used := strings.ContainsRune(usedFields(i.Op), name); {
		case !used:
			known = known && n == 0
		case name == 'W':
			known = known && (n == 1 || n == 8 || n == 16 || n == 32)
		case name == 'C' && isCast(i.Op):
			known = known && has(widths(), n) && n != i.W && (n > i.W) == (i.Op == impl.OpTrunc)
		case name != 'I':
			known = known && n >= 0 && n < regs
		case i.Op == impl.OpConst:
			known = known && n >= 0 && n <= topOf(max(0, min(i.W, 32)))
		default:
			known = known && n >= 0 && n < places
		}
	}
	return known && (i.Op != impl.OpLoad || i.W == 8)
}

func refProgramOk(p impl.Program) bool {
	n := len(p.Code)
	ok := p.Regs >= 1 && p.Regs <= 130 && len(p.Params) <= 4 && len(p.Params) == len(p.Widths) && n >= 1 && n <= 600
	for at := range p.Params {
		ok = ok && p.Params[at] >= 0 && p.Params[at] < p.Regs && has(widths(), p.Widths[at])
	}
	for at, i := range p.Code {
		ok = ok && refMInsOk(i, p.Regs, int64(n)) && (at < n-1 || endsCode(i.Op))
	}
	return ok
}

// madeMIns is right in a program of so many registers and places.
func madeMIns(d *dice, op int64, regs int64, places int64) impl.MIns {
	i := impl.MIns{Op: op}
	for _, name := range usedFields(op) {
		*fieldOf(&i, name) = d.below(regs)
	}
	if strings.Contains(usedFields(op), "W") {
		i.W = d.oneOf(widths())
	}
	switch op {
	case impl.OpZext, impl.OpSext:
		i.W, i.C = d.oneOf([]int64{16, 32}), d.oneOf([]int64{1, 8})
	case impl.OpTrunc:
		i.W, i.C = d.oneOf([]int64{1, 8}), d.oneOf([]int64{16, 32})
	case impl.OpConst:
		i.Imm = d.oneOf(edgesOf(i.W))
	case impl.OpLoad:
		i.W = 8
	case impl.MvJump, impl.MvIf:
		i.Imm = d.below(places)
	}
	return i
}

// madeProgram is right: registers are few, so that most of them are used with
// several widths, and small numbers come often, so that memory is met.
func madeProgram(seed uint64) impl.Program {
	d := &dice{seed: seed}
	d.below(2)
	p := impl.Program{Regs: 1 + d.below(7)}
	if d.below(6) == 0 {
		p.Regs = impl.MaxRegs
	}
	for range d.below(impl.MaxParams + 1) {
		p.Params = append(p.Params, d.below(p.Regs))
		p.Widths = append(p.Widths, d.oneOf(widths()))
	}
	n := 1 + d.below(25)
	for range n - 1 {
		op := d.oneOf(machineOps())
		if (op == impl.MvRet || op == impl.MvTrap) && d.below(4) > 0 {
			op = impl.OpPrint
		}
		i := madeMIns(d, op, p.Regs, n)
		if d.below(5) == 0 {
			i = impl.MIns{Op: impl.OpConst, W: 32, D: d.below(p.Regs), Imm: d.below(40)}
		}
		p.Code = append(p.Code, i)
	}
	p.Code = append(p.Code, madeMIns(d, d.oneOf([]int64{impl.MvJump, impl.MvRet, impl.MvTrap}), p.Regs, n))
	return p
}

// disturbedProgram changes one or two numbers anywhere.
func disturbedProgram(p impl.Program, d *dice) impl.Program {
	p = copyProgram(p)
	odd := []int64{-1, 0, 0, 1, 1, 2, 3, 5, 8, 16, 21, 26, 27, 30, 31, 32, 33, 34, 35, 36, 129, 130, 255, 256, impl.MaxConst, impl.MaxConst + 1}
	for range 1 + d.below(2) {
		switch d.below(12) {
		case 0:
			p.Regs = d.oneOf(odd)
		case 1:
			p.Params = append(p.Params, d.below(p.Regs+1))
		case 2:
			p.Widths = append(p.Widths, d.oneOf(odd))
		case 3:
			p.Code = p.Code[:d.below(int64(len(p.Code))+1)]
		default:
			if len(p.Code) > 0 {
				i := &p.Code[d.below(int64(len(p.Code)))]
				*[]*int64{&i.Op, &i.W, &i.D, &i.A, &i.B, &i.C, &i.Imm}[d.below(7)] = d.oneOf(odd)
			}
		}
		p.Regs = max(p.Regs, 0)
	}
	return p
}

func refProgramNumbers(p impl.Program) []int64 {
	l := append([]int64{p.Regs}, refList(p.Params)...)
	l = append(append(l, refList(p.Widths)...), int64(len(p.Code)))
	for _, i := range p.Code {
		l = append(l, i.Op, i.W, i.D, i.A, i.B, i.C, i.Imm)
	}
	return l
}

func programOfNumbers(l []int64) string {
	s := []byte("REG1")
	for _, n := range l {
		s = binary.AppendUvarint(s, uint64(n))
	}
	return string(s)
}

func refProgramBytes(p impl.Program) string { return programOfNumbers(refProgramNumbers(p)) }

// refReadProgram reads loosely, and holds what is written of it against s.
func refReadProgram(s string) (impl.Program, bool) {
	r := &loose{}
	for rest := []byte(strings.TrimPrefix(s, "REG1")); len(rest) > 0; {
		n, size := binary.Uvarint(rest)
		if size <= 0 || n > impl.MaxConst {
			return impl.Program{}, false
		}
		r.left = append(r.left, int64(n))
		rest = rest[size:]
	}
	p := impl.Program{Regs: r.next()}
	p.Params = r.list()
	p.Widths = r.list()
	for range min(r.next(), 700) {
		p.Code = append(p.Code, impl.MIns{Op: r.next(), W: r.next(), D: r.next(), A: r.next(), B: r.next(), C: r.next(), Imm: r.next()})
	}
	if !refProgramOk(p) || refProgramBytes(p) != s {
		return impl.Program{}, false
	}
	return p, true
}

// A refMachine has its registers in a map, each as far as it was written, and
// ends by giving up.
type refMachine struct {
	refRun
	regs map[int64]int64
}

func refCut(n int64, w int64) int64 { return n % (topOf(w) + 1) }

// does tells where it goes on, or, with false, what is given.
func (r *refMachine) does(i impl.MIns, at int64) (int64, bool) {
	a, b := r.regs[i.A], r.regs[i.B]
	switch i.Op {
	case impl.MvJump:
		return i.Imm, true
	case impl.MvIf:
		if a%2 == 1 {
			return i.Imm, true
		}
	case impl.MvRet:
		return refCut(a, i.W), false
	case impl.MvTrap:
		r.stop(true, impl.RsTrap)
	case impl.MvMove:
		r.regs[i.D] = refCut(a, i.W)
	case impl.OpConst:
		r.regs[i.D] = i.Imm
	case impl.OpSelect:
		r.regs[i.D] = refCut([]int64{r.regs[i.C], b}[a%2], i.W)
	case impl.OpZext, impl.OpSext, impl.OpTrunc:
		r.regs[i.D], _ = impl.Casted(i.Op, i.C, i.W, refCut(a, i.C))
	case impl.OpLoad:
		r.stop(a > 31, impl.RsBounds)
		r.regs[i.D] = int64(r.mem[a])
	case impl.OpStore:
		r.stop(a > 31, impl.RsBounds)
		r.mem[a] = byte(b % 256)
	case impl.OpPrint:
		r.stop(len(r.out) == 30, impl.RsFull)
		r.out = append(r.out, a)
	default:
		v, code := impl.Binary(i.Op, i.W, refCut(a, i.W), refCut(b, i.W))
		r.stop(code == impl.BnZero, impl.RsZero)
		r.regs[i.D] = v
	}
	return at + 1, true
}

func refMachineRun(p impl.Program, args []int64, mem string, fuel int64) (out impl.Result) {
	r := &refMachine{refRun: refRun{left: fuel, mem: []byte(mem)}, regs: map[int64]int64{}}
	defer func() {
		if s, ok := recover().(refStop); ok {
			out.Code = s.code
		}
		out.Out, out.Mem, out.Steps = r.out, string(r.mem), fuel-r.left
	}()
	for k, v := range args {
		r.regs[p.Params[k]] = v
	}
	for at := int64(0); ; {
		r.step()
		next, on := r.does(p.Code[at], at)
		if !on {
			out.Value = next
			return out
		}
		at = next
	}
}
