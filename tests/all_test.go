package tests

import (
	"go/ast"
	"go/parser"
	"go/token"
	"math"
	"path/filepath"
	"reflect"
	"runtime"
	"strconv"
	"strings"
	"testing"

	"loop.example/g00457/impl"
)

// allCalls are all functions of the document, in its order.
func allCalls() []any {
	return []any{
		impl.WidthOk, impl.Masked, impl.SignOf, impl.Binary, impl.Casted, impl.ResultWidth,
		impl.CountOf, impl.OperandsOf, impl.ShapeOk, impl.TypeOf, impl.PlaceOf,
		impl.SuccsOf, impl.PredsOf, impl.Reached, impl.Dominates, impl.IdomOf, impl.OrderOf,
		impl.FuncChecked, impl.Checked, impl.Uses,
		impl.InstText, impl.ReadInst, impl.ModuleText, impl.ReadModule,
		impl.VarOf, impl.ReadVar, impl.Crc, impl.ModuleBytes, impl.ReadBytes,
		impl.Invoked, impl.Seen,
		impl.Substituted, impl.Without,
		impl.ConstOf, impl.FoldedInst, impl.Folded,
		impl.Needed, impl.Cleaned, impl.CopiesGone,
		impl.KeyOf, impl.Shared,
		impl.Chosen, impl.Pruned, impl.Joined,
		impl.FactsOf, impl.Propagated,
		impl.Critical, impl.Split,
		impl.LiveIn, impl.LiveOut, impl.LiveAfter, impl.Pressure,
		impl.Meet, impl.ColoursOk, impl.ColoursOf,
		impl.ProgramOk, impl.Emitted, impl.ProgramBytes, impl.ReadProgram, impl.MachineRun,
		impl.PassesOf, impl.PassText, impl.RunPass, impl.RunPasses, impl.RunDumped,
		impl.Holds, impl.FirstBad, impl.UnitsOf, impl.Shrunk,
		impl.RunScript,
	}
}

func callName(call any) string {
	name := runtime.FuncForPC(reflect.ValueOf(call).Pointer()).Name()
	return name[strings.LastIndex(name, ".")+1:]
}

func TestAllCallsAreHere(t *testing.T) {
	here := map[string]bool{}
	for _, call := range allCalls() {
		here[callName(call)] = true
	}
	files, err := filepath.Glob("../impl/*.go")
	if err != nil || len(files) != 20 {
		t.Fatal(err, files)
	}
	exported := 0
	for _, file := range files {
		a, err := parser.ParseFile(token.NewFileSet(), file, nil, 0)
		if err != nil {
			t.Fatal(err)
		}
		for _, d := range a.Decls {
			if f, ok := d.(*ast.FuncDecl); ok && f.Recv == nil && f.Name.IsExported() {
				exported++
				if !here[f.Name.Name] {
					t.Error(f.Name.Name)
				}
			}
		}
	}
	if exported != len(here) {
		t.Error(exported, len(here))
	}
}

// An argMaker makes arguments of each type: such as fit, such as nearly fit,
// and such as do not. Each list of them has spare room.
type argMaker struct {
	*dice
	modules  []impl.Module
	programs []impl.Program
	texts    []string
}

func newArgMaker(seed uint64) *argMaker {
	k := &argMaker{dice: &dice{seed: seed}}
	for n := range uint64(25) {
		k.modules = append(k.modules, busyModule(n), wideModule(n), unitModule(n), disturbed(madeModule(n), k.dice), alone(uncalled(madeModule(n).Funcs[0])))
		k.programs = append(k.programs, madeProgram(n), disturbedProgram(madeProgram(n), k.dice))
	}
	for _, m := range modulesPastLimits() {
		k.modules = append(k.modules, m)
	}
	k.texts = []string{"", noughts(), countedMem(), "fold,clean", "fold,copies,clean,share,choose,prune,join,facts,split", "fly", "add 8 1 2", "call 8 0 1 2", "const 8 9", "SSA1", "REG1", "\n", "size\n"}
	for _, m := range k.modules[:20] {
		k.texts = append(k.texts, impl.ModuleText(m), impl.ModuleBytes(m), linesOf(textLines(impl.ModuleText(m))...))
	}
	for _, text := range shortTexts(10) {
		k.texts = append(k.texts, linesOf(append(textLines(text), "pass fold,clean", "run 0", "run 0 1", "emit 0", "size")...))
	}
	for _, p := range k.programs[:10] {
		k.texts = append(k.texts, impl.ProgramBytes(p))
	}
	return k
}

func (k *argMaker) number() int64 {
	switch k.below(8) {
	case 0:
		return k.oneOf([]int64{math.MinInt64, -2, -1, 32, 60, 255, 256, 2000, 2001, impl.MaxConst, math.MaxInt64})
	case 1:
		return k.oneOf(widths())
	case 2:
		return k.below(60)
	}
	return k.below(10)
}

func (k *argMaker) list() []int64 {
	var l []int64
	switch k.below(4) {
	case 0:
		for range k.below(7) {
			l = append(l, k.number())
		}
	case 1:
		for n := range k.below(61) {
			l = append(l, n)
		}
	case 2:
		for range k.below(14) {
			l = append(l, k.below(3))
		}
	default:
		for range k.below(5) {
			l = append(l, k.below(2))
		}
	}
	return roomyList(l)
}

func (k *argMaker) module() impl.Module {
	return roomy(k.modules[k.below(int64(len(k.modules)))])
}

func (k *argMaker) function() impl.Func {
	m := k.module()
	for len(m.Funcs) == 0 {
		m = k.module()
	}
	return m.Funcs[k.below(int64(len(m.Funcs)))]
}

func (k *argMaker) inst() impl.Inst {
	if f := k.function(); len(instPlaces(&f)) > 0 && k.below(5) > 0 {
		all := instPlaces(&f)
		return *all[k.below(int64(len(all)))]
	}
	return impl.Inst{Op: k.number(), W: k.number(), A: k.number(), B: k.number(), C: k.number(), Imm: k.number(), Args: k.list()}
}

func (k *argMaker) program() impl.Program {
	p := copyProgram(k.programs[k.below(int64(len(k.programs)))])
	p.Params, p.Widths = roomyList(p.Params), roomyList(p.Widths)
	p.Code = append(make([]impl.MIns, 0, len(p.Code)+5), p.Code...)
	return p
}

func (k *argMaker) text() string { return k.texts[k.below(int64(len(k.texts)))] }

func (k *argMaker) result() impl.Result {
	return impl.Result{Code: k.below(8), Value: k.number(), Out: k.list(), Mem: k.text(), Steps: k.number()}
}

func (k *argMaker) row() []impl.Module {
	row := make([]impl.Module, 0, 12)
	for range k.below(8) {
		row = append(row, k.module())
	}
	return row
}

func (k *argMaker) oracle() impl.Oracle {
	m := k.module()
	if impl.Checked(m) == impl.VfOk && k.below(3) > 0 {
		return roomyOracle(lessOracle(m, k.dice))
	}
	return impl.Oracle{Func: k.number(), Args: k.list(), Mem: k.text(), Want: k.result()}
}

func (k *argMaker) made(t reflect.Type) reflect.Value {
	switch reflect.Zero(t).Interface().(type) {
	case int64:
		return reflect.ValueOf(k.number())
	case string:
		return reflect.ValueOf(k.text())
	case []int64:
		return reflect.ValueOf(k.list())
	case impl.Module:
		return reflect.ValueOf(k.module())
	case impl.Func:
		return reflect.ValueOf(k.function())
	case impl.Inst:
		return reflect.ValueOf(k.inst())
	case impl.Program:
		return reflect.ValueOf(k.program())
	case impl.Result:
		return reflect.ValueOf(k.result())
	case []impl.Module:
		return reflect.ValueOf(k.row())
	}
	return reflect.ValueOf(k.oracle())
}

func (k *argMaker) rightModule() impl.Module {
	for {
		if m := k.module(); impl.Checked(m) == impl.VfOk {
			return m
		}
	}
}

// fitting are arguments that belong together, for those calls that refuse
// nearly all others; none for the rest.
func (k *argMaker) fitting(name string) []any {
	m := k.rightModule()
	trials := trialsOf(m, k.dice)
	c := trials[k.below(int64(len(trials)))]
	l := pickedPasses(k.dice)
	how := roomyList(make([]int64, len(l)+1))
	for at := range how {
		how[at] = k.below(3)
	}
	switch name {
	case "Casted":
		return []any{impl.OpZext + k.below(3), k.oneOf(widths()), k.oneOf(widths()), k.below(2)}
	case "Invoked":
		return []any{m, c.k, roomyList(c.args), c.mem, k.oneOf([]int64{20, impl.MaxFuel})}
	case "MachineRun":
		p := madeProgram(uint64(k.below(25)))
		return []any{p, roomyList(programArgs(p, k.dice)), c.mem, k.oneOf([]int64{20, impl.MaxFuel})}
	case "Substituted":
		return []any{m.Funcs[0], roomyList(asItWas(m.Funcs[0]))}
	case "Without":
		return []any{m.Funcs[0], roomyList(impl.UnitsOf(m.Funcs[0]))}
	case "ColoursOk":
		return []any{m.Funcs[0], roomyList(impl.ColoursOf(m.Funcs[0]))}
	case "RunPasses":
		return []any{m, roomyList(l)}
	case "RunDumped":
		return []any{m, roomyList(l), how}
	case "Holds":
		return []any{m, impl.Oracle{Func: c.k, Args: roomyList(c.args), Mem: c.mem, Want: c.run(impl.MaxFuel)}}
	case "FirstBad":
		return []any{rowOf("1100110"), roomyOracle(rowOracle())}
	case "Shrunk":
		return []any{m, roomyOracle(lessOracle(m, k.dice))}
	}
	return nil
}

func (k *argMaker) argsOf(name string, t reflect.Type) []reflect.Value {
	var args []reflect.Value
	if k.below(2) == 0 {
		for _, x := range k.fitting(name) {
			args = append(args, reflect.ValueOf(x))
		}
	}
	for n := len(args); n < t.NumIn(); n++ {
		args = append(args, k.made(t.In(n)))
	}
	return args
}

// written is all that stands in a value; with spare, also in the spare room
// behind its lists.
func written(v reflect.Value, spare bool) string {
	switch v.Kind() {
	case reflect.Int64:
		return strconv.FormatInt(v.Int(), 10)
	case reflect.Bool:
		return strconv.FormatBool(v.Bool())
	case reflect.String:
		return strconv.Quote(v.String())
	}
	var l []string
	if v.Kind() == reflect.Struct {
		for k := range v.NumField() {
			l = append(l, written(v.Field(k), spare))
		}
		return "{" + strings.Join(l, " ") + "}"
	}
	n := v.Len()
	if spare {
		v = v.Slice(0, v.Cap())
	}
	for k := range v.Len() {
		l = append(l, written(v.Index(k), spare))
	}
	return strconv.Itoa(n) + "[" + strings.Join(l, " ") + "]"
}

func allWritten(l []reflect.Value, spare bool) string {
	var out []string
	for _, v := range l {
		out = append(out, written(v, spare))
	}
	return strings.Join(out, ", ")
}

func thingsOf(lists ...[]reflect.Value) []any {
	var l []any
	for _, list := range lists {
		for _, v := range list {
			l = append(l, v.Interface())
		}
	}
	return l
}

// asksTwice tells what a call answered.
func asksTwice(t *testing.T, name string, call reflect.Value, args []reflect.Value) []reflect.Value {
	t.Helper()
	before := allWritten(args, true)
	first := call.Call(args)
	kept := allWritten(first, false)
	second := call.Call(args)
	if allWritten(second, false) != kept || allWritten(first, false) != kept {
		t.Fatal(name, before, kept, allWritten(second, false))
	}
	if after := allWritten(args, true); after != before {
		t.Fatal(name, "written into an argument", before, after)
	}
	if shareMemory(thingsOf(args, first, second)...) {
		t.Fatal(name, "shares memory", before)
	}
	return first
}

// The same arguments give the same answers; nothing is written into an
// argument; every answer is new memory; and beside a flag that is false there
// is nothing.
func TestTheSameArgumentsGiveTheSameAnswers(t *testing.T) {
	k := newArgMaker(111)
	for _, call := range allCalls() {
		name, f := callName(call), reflect.ValueOf(call)
		answers := map[string]bool{}
		for range 150 {
			args := k.argsOf(name, f.Type())
			out := asksTwice(t, name, f, args)
			answers[allWritten(out, false)] = true
			if last := out[len(out)-1]; len(out) == 2 && last.Kind() == reflect.Bool && !last.Bool() {
				if none := reflect.Zero(out[0].Type()); written(out[0], false) != written(none, false) {
					t.Fatal(name, allWritten(args, false), allWritten(out, false))
				}
			}
		}
		if len(answers) < 2 {
			t.Error(name, "always answers the same", answers)
		}
	}
}

// Many that ask at once do not disturb each other.
func TestManyAskAtOnce(t *testing.T) {
	k := newArgMaker(112)
	type asked struct {
		call reflect.Value
		args []reflect.Value
		want string
	}
	var all []asked
	for _, call := range allCalls() {
		f := reflect.ValueOf(call)
		for range 10 {
			args := k.argsOf(callName(call), f.Type())
			all = append(all, asked{f, args, allWritten(f.Call(args), false)})
		}
	}
	told := make(chan bool)
	for from := range 4 {
		go func() {
			ok := true
			for n := range all {
				x := all[(n+from*len(all)/4)%len(all)]
				ok = ok && allWritten(x.call.Call(x.args), false) == x.want
			}
			told <- ok
		}()
	}
	for range 4 {
		if !<-told {
			t.Error("another answer")
		}
	}
}
