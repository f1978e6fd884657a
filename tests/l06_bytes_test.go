package tests

import (
	"encoding/binary"
	"hash/crc32"
	"math"
	"reflect"
	"strings"
	"testing"

	"loop.example/g00457/impl"
)

// numberBorders are where a number takes one byte more, and both ends.
func numberBorders() []int64 {
	l := []int64{0, 1, 2, 3, 100, 255, 256, 300, 65535, 65536}
	for bits := 7; bits < 35; bits += 7 {
		n := int64(1) << bits
		l = append(l, n-2, n-1, n, n+1, n+127, n+128)
	}
	return append(l, 1<<31-1, 1<<31, impl.MaxConst-1, impl.MaxConst)
}

func TestVarOfByHand(t *testing.T) {
	for n, s := range map[int64]string{
		0: "\x00", 1: "\x01", 127: "\x7f", 128: "\x80\x01", 129: "\x81\x01", 255: "\xff\x01", 256: "\x80\x02",
		16383: "\xff\x7f", 16384: "\x80\x80\x01", 2097151: "\xff\xff\x7f", 2097152: "\x80\x80\x80\x01",
		268435455: "\xff\xff\xff\x7f", 268435456: "\x80\x80\x80\x80\x01", impl.MaxConst: "\xff\xff\xff\xff\x0f",
		-1: "", -128: "", impl.MaxConst + 1: "", impl.MaxConst + 2: "", 1 << 35: "", math.MinInt64: "", math.MaxInt64: "",
	} {
		if got := impl.VarOf(n); got != s {
			t.Errorf("%d %q", n, got)
		}
	}
}

func TestNumbersComeBack(t *testing.T) {
	d := &dice{seed: 9}
	l := numberBorders()
	for range 3000 {
		l = append(l, d.below(impl.MaxConst+1)>>d.below(32))
	}
	for _, n := range l {
		s := impl.VarOf(n)
		if s != string(binary.AppendUvarint(nil, uint64(n))) {
			t.Fatalf("%d %q", n, s)
		}
		for _, behind := range []string{"", "\x00", "\x01", "\x80", "\xff\xff"} {
			for _, ahead := range []string{"", "\x00", "\x80", "\xff\xff\xff"} {
				if m, size := impl.ReadVar(ahead+s+behind, int64(len(ahead))); m != n || size != int64(len(s)) {
					t.Fatal(n, m, size)
				}
			}
		}
		// Without its last byte it is none.
		if m, size := impl.ReadVar(s[:len(s)-1], 0); m != 0 || size != 0 {
			t.Fatal(n, m, size)
		}
	}
}

// refReadVar tries all sizes, and holds what is there against what is written.
func refReadVar(s string, at int64) (int64, int64) {
	if at < 0 || at >= int64(len(s)) {
		return 0, 0
	}
	for size := int64(1); size <= 5 && at+size <= int64(len(s)); size++ {
		piece := s[at : at+size]
		n, k := binary.Uvarint([]byte(piece))
		if int64(k) == size && n <= impl.MaxConst && string(binary.AppendUvarint(nil, n)) == piece {
			return int64(n), size
		}
	}
	return 0, 0
}

func TestReadVarAgainstOtherWays(t *testing.T) {
	ask := func(s string) {
		for at := int64(-2); at <= int64(len(s))+2; at++ {
			n, size := impl.ReadVar(s, at)
			if m, k := refReadVar(s, at); n != m || size != k {
				t.Fatalf("%q %d: %d %d, %d %d", s, at, n, size, m, k)
			}
		}
	}
	for a := range 256 {
		ask(string([]byte{byte(a)}))
		for b := range 256 {
			ask(string([]byte{byte(a), byte(b)}))
		}
	}
	edges := "\x00\x01\x0f\x10\x1f\x7f\x80\x81\x8f\xff"
	d := &dice{seed: 4}
	for range 40000 {
		var s []byte
		for range d.below(9) {
			s = append(s, edges[d.below(int64(len(edges)))])
		}
		ask(string(s))
	}
}

func TestNumbersThatAreNone(t *testing.T) {
	for _, s := range []string{
		"", "\x80", "\xff", "\x80\x80\x80\x80", "\x80\x00", "\xff\x00", "\x80\x80\x00", "\x80\x80\x80\x00", "\x80\x80\x80\x80\x00", "\xff\xff\xff\xff\x00",
		"\x80\x80\x80\x80\x10", "\xff\xff\xff\xff\x10", "\xff\xff\xff\xff\x1f", "\xff\xff\xff\xff\x7f", "\x80\x80\x80\x80\x80", "\x80\x80\x80\x80\x80\x01", "\xff\xff\xff\xff\xff\x0f", "\x80\x80\x80\x80\x80\x00",
		"\xff\xff\xff\xff\x8f\x00", "\x80\x80\x80\x80\x80\x80\x80\x80\x80\x01", strings.Repeat("\xff", 100),
	} {
		if n, size := impl.ReadVar(s, 0); n != 0 || size != 0 {
			t.Errorf("%q %d %d", s, n, size)
		}
	}
	for _, at := range []int64{math.MinInt64, -5, -1, 3, 4, math.MaxInt64 - 1, math.MaxInt64} {
		if n, size := impl.ReadVar("\x01\x02\x03", at); n != 0 || size != 0 {
			t.Error(at, n, size)
		}
	}
	if n, size := impl.ReadVar("\x01\x02\x00", 2); n != 0 || size != 1 {
		t.Error("a nought that stands there", n, size)
	}
}

func TestCrc(t *testing.T) {
	for s, want := range map[string]int64{
		"": 0, "123456789": 0xCBF43926, "a": 0xE8B7BE43, "abc": 0x352441C2, "\x00": 0xD202EF8D, "\xff": 0xFF000000,
		"\x00\x00\x00\x00": 0x2144DF1C, "\xff\xff\xff\xff": 0xFFFFFFFF, "The quick brown fox jumps over the lazy dog": 0x414FA339,
	} {
		if got := impl.Crc(s); got != want {
			t.Errorf("%q %x", s, got)
		}
	}
	var all []byte
	for b := range 1000 {
		all = append(all, byte(b*b+b/256))
		if got := impl.Crc(string(all)); got != int64(crc32.ChecksumIEEE(all)) {
			t.Fatal(b, got)
		}
	}
	long := strings.Repeat("\x01\xfe\x80", 100000)
	if got := impl.Crc(long); got != int64(crc32.ChecksumIEEE([]byte(long))) {
		t.Error(got)
	}
}

// summed puts its sum behind it.
func summed(s string) string {
	return string(binary.BigEndian.AppendUint32([]byte(s), crc32.ChecksumIEEE([]byte(s))))
}

func refList(l []int64) []int64 { return append([]int64{int64(len(l))}, l...) }

func refNumbersOf(m impl.Module) []int64 {
	l := []int64{int64(len(m.Funcs))}
	for _, f := range m.Funcs {
		l = append(append(l, f.Ret), refList(f.Params)...)
		l = append(l, int64(len(f.Blocks)))
		for _, b := range f.Blocks {
			l = append(l, int64(len(b.Phis)))
			for _, p := range b.Phis {
				l = append(append(l, p.W), refList(p.Ins)...)
			}
			l = append(l, int64(len(b.Insts)))
			for _, i := range b.Insts {
				l = append(l, i.Op, i.W)
				if i.Op == impl.OpConst || i.Op == impl.OpCall {
					l = append(l, i.Imm)
				}
				l = append(l, refList(impl.OperandsOf(i))...)
			}
			switch e := b.Term; e.Kind {
			case impl.TmRet:
				l = append(l, e.Kind, e.A)
			case impl.TmJump:
				l = append(l, e.Kind, e.X)
			case impl.TmBranch:
				l = append(l, e.Kind, e.A, e.X, e.Y)
			default:
				l = append(l, e.Kind)
			}
		}
	}
	return l
}

func bytesOfNumbers(l []int64) string {
	s := []byte("SSA1")
	for _, n := range l {
		s = binary.AppendUvarint(s, uint64(n))
	}
	return summed(string(s))
}

func refModuleBytes(m impl.Module) string { return bytesOfNumbers(refNumbersOf(m)) }

// A loose reader takes noughts behind the last number, and what is written of
// what it read tells whether it took some.
type loose struct{ left []int64 }

func (r *loose) next() int64 {
	if len(r.left) == 0 {
		return 0
	}
	n := r.left[0]
	r.left = r.left[1:]
	return n
}

// times is cut, as no right module has so many of anything.
func (r *loose) times() int { return int(min(r.next(), 70)) }

func (r *loose) list() []int64 {
	var l []int64
	for range r.times() {
		l = append(l, r.next())
	}
	return l
}

func (r *loose) block() impl.Block {
	var b impl.Block
	for range r.times() {
		w := r.next()
		b.Phis = append(b.Phis, impl.Phi{W: w, Ins: r.list()})
	}
	for range r.times() {
		i := impl.Inst{Op: r.next()}
		i.W = r.next()
		if i.Op == impl.OpConst || i.Op == impl.OpCall {
			i.Imm = r.next()
		}
		l := r.list()
		if i.Op != impl.OpCall {
			l = l[:min(3, len(l))]
		}
		b.Insts = append(b.Insts, naming(i, l))
	}
	b.Term.Kind = r.next()
	switch b.Term.Kind {
	case impl.TmRet:
		b.Term.A = r.next()
	case impl.TmJump:
		b.Term.X = r.next()
	case impl.TmBranch:
		b.Term = branchOf(r.next(), r.next(), r.next())
	}
	return b
}

func refReadBytes(s string) (impl.Module, bool) {
	if len(s) < 8 || s[:4] != "SSA1" {
		return impl.Module{}, false
	}
	r := &loose{}
	for rest := []byte(s[4 : len(s)-4]); len(rest) > 0; {
		n, size := binary.Uvarint(rest)
		if size <= 0 || n > impl.MaxConst {
			return impl.Module{}, false
		}
		r.left = append(r.left, int64(n))
		rest = rest[size:]
	}
	var m impl.Module
	for range r.times() {
		f := impl.Func{Ret: r.next()}
		f.Params = r.list()
		for range r.times() {
			f.Blocks = append(f.Blocks, r.block())
		}
		m.Funcs = append(m.Funcs, f)
	}
	if !impl.ShapeOk(m) || refModuleBytes(m) != s {
		return impl.Module{}, false
	}
	return m, true
}

func TestModuleBytesByHand(t *testing.T) {
	m := impl.Module{Funcs: []impl.Func{
		{Params: []int64{1, 32}, Ret: 8, Blocks: []impl.Block{
			{Insts: []impl.Inst{{Op: impl.OpConst, W: 8, Imm: 200}, {Op: impl.OpCall, W: 8, Imm: 1, Args: []int64{2, 2}}}, Term: branchOf(0, 1, 2)},
			{Insts: []impl.Inst{{Op: impl.OpStore, A: 1, B: 3}}, Term: jumpTo(2)},
			{Phis: []impl.Phi{{W: 8, Ins: []int64{2, 3}}}, Insts: []impl.Inst{{Op: impl.OpPrint, A: 5}, {Op: impl.OpSelect, W: 8, A: 0, B: 5, C: 3}}, Term: retOf(7)},
		}},
		{Params: []int64{8, 8}, Ret: 8, Blocks: []impl.Block{{Term: trapEnd()}}},
	}}
	body := "SSA1\x02" +
		"\x08\x02\x01\x20\x03" +
		"\x00\x02\x15\x08\xc8\x01\x00\x1a\x08\x01\x02\x02\x02\x03\x00\x01\x02" +
		"\x00\x01\x18\x00\x02\x01\x03\x02\x02" +
		"\x01\x08\x02\x02\x03\x02\x19\x00\x01\x05\x16\x08\x03\x00\x05\x03\x01\x07" +
		"\x08\x02\x08\x08\x01" + "\x00\x00\x04"
	if s := impl.ModuleBytes(m); s != summed(body) {
		t.Errorf("%q", s)
	}
	if back, ok := impl.ReadBytes(summed(body)); !ok || !sameModule(back, m) {
		t.Error(back, ok)
	}
}

func comesBackFromBytes(t *testing.T, name any, m impl.Module) {
	s := impl.ModuleBytes(m)
	if s != refModuleBytes(m) {
		t.Fatalf("%v %q", name, s)
	}
	back, ok := impl.ReadBytes(s)
	if !ok || !sameModule(back, m) || impl.ModuleBytes(back) != s {
		t.Fatal(name, ok, back, m)
	}
	if shareMemory(back, m) {
		t.Fatal(name, "shared")
	}
}

func TestModulesComeBackFromBytes(t *testing.T) {
	d := &dice{seed: 8}
	for seed := range uint64(300) {
		m := madeModule(seed)
		comesBackFromBytes(t, seed, m)
		for range 5 {
			x := disturbed(m, d)
			if impl.ShapeOk(x) {
				comesBackFromBytes(t, seed, x)
			} else if s := impl.ModuleBytes(x); s != "" {
				t.Fatal(seed, s)
			}
		}
	}
	for op := int64(1); op <= 27; op++ {
		comesBackFromBytes(t, op, holding(rightInst(op)))
	}
	for name, m := range modulesAtLimits() {
		comesBackFromBytes(t, name, m)
	}
	comesBackFromBytes(t, "wide", alone(wideFunc()))
	for _, n := range numberBorders() {
		comesBackFromBytes(t, n, holding(impl.Inst{Op: impl.OpConst, W: 32, Imm: n}))
	}
}

func TestBytesPastLimits(t *testing.T) {
	for name, m := range modulesPastLimits() {
		if s := impl.ModuleBytes(m); s != "" {
			t.Errorf("%s %q", name, s)
		}
		if name == "not used" || name == "end" {
			continue // what is not written is not read
		}
		if x, ok := impl.ReadBytes(refModuleBytes(m)); ok || !reflect.DeepEqual(x, impl.Module{}) {
			t.Error(name, x)
		}
	}
}

// isNone asks of bytes that they are read as nothing.
func isNone(t *testing.T, s string) {
	t.Helper()
	if m, ok := impl.ReadBytes(s); ok || !reflect.DeepEqual(m, impl.Module{}) {
		t.Errorf("%.80q %v", s, m)
	}
}

func TestEachBitTurned(t *testing.T) {
	ms := []impl.Module{alone(counted(0)), alone(wideFunc()), calledModule(), sightModule(), withParams(4), withArgs(4, 4)}
	for seed := range uint64(10) {
		ms = append(ms, madeModule(seed))
	}
	for _, m := range ms {
		s := impl.ModuleBytes(m)
		for bit := range 8 * len(s) {
			x := []byte(s)
			x[bit/8] ^= 1 << (bit % 8)
			isNone(t, string(x))
		}
	}
}

func TestBytesCutAndLonger(t *testing.T) {
	s := impl.ModuleBytes(alone(wideFunc()))
	body := s[:len(s)-4]
	for at := range len(s) {
		isNone(t, s[:at])
		isNone(t, s[at+1:])
		isNone(t, s[:at]+s[at+1:])
		isNone(t, s[:at]+"\x00"+s[at:])
	}
	for at := range len(body) {
		isNone(t, summed(body[:at]))
		isNone(t, summed(body[at+1:]))
	}
	for _, more := range []string{"\x00", "\x01", "\x80", "\xff", "\n", s, "\x00\x00\x00\x00"} {
		isNone(t, s+more)
		isNone(t, more+s)
		isNone(t, summed(body+more))
		isNone(t, summed(s+more))
	}
	// The sum stands with its highest byte first, and is of the head too.
	sum := s[len(s)-4:]
	isNone(t, body+string([]byte{sum[3], sum[2], sum[1], sum[0]}))
	isNone(t, body+summed(body[4:])[len(body)-4:])
	isNone(t, body+"\x00\x00\x00\x00")
}

func TestHeads(t *testing.T) {
	s := impl.ModuleBytes(alone(counted(1)))
	rest := s[4 : len(s)-4]
	if s != summed("SSA1"+rest) {
		t.Fatal(s)
	}
	for _, head := range []string{"", "SSA", "SSA2", "SSA0", "ssa1", "REG1", "1ASS", " SSA1", "SSA1 ", "SSA11", "SSA1SSA1", "\x00SA1"} {
		isNone(t, summed(head+rest))
	}
	for _, x := range []string{"", "S", "SSA1", "SSA1\x00", "SSA1\x01", "\x00\x00\x00\x00", summed(""), summed("S"), summed("SSA1"), summed("SSA"), summed("SSA1\x00"), summed("SSA1\x01"), summed("SSA1\x80")} {
		isNone(t, x)
	}
}

// Numbers with more bytes than they need, and counts of what is not there.
func TestBytesWithStrangeNumbers(t *testing.T) {
	plain := "SSA1\x01\x01\x00\x01\x00\x00\x04"
	if _, ok := impl.ReadBytes(summed(plain)); !ok {
		t.Fatal("plain")
	}
	for at := 4; at < len(plain); at++ {
		for _, n := range []string{"\x80", "\x80\x00", plain[at:at+1] + "\x00", string([]byte{plain[at] | 128, 0}), "\xff\xff\xff\xff\x0f", "\xff\xff\xff\xff\x10", "\xff\xff\xff\xff\x7f", "\x80\x80\x80\x80\x80\x01", "\x80\x80\x80\x80\x10", "\x80\x80\x80\x80\x01"} {
			isNone(t, summed(plain[:at]+n+plain[at+1:]))
		}
	}
}

func TestBytesOfOperandLists(t *testing.T) {
	for op := int64(0); op <= 30; op++ {
		for count := int64(0); count <= 6; count++ {
			for _, w := range []int64{0, 8} {
				l := []int64{1, 8, 0, 1, 0, 1, op, w}
				i := impl.Inst{Op: op, W: w}
				if op == impl.OpConst || op == impl.OpCall {
					l = append(l, 0)
				}
				l = append(append(l, count), make([]int64, count)...)
				s := bytesOfNumbers(append(l, impl.TmTrap))
				if op == impl.OpCall {
					i.Args = make([]int64, count)
				}
				f := counted(1)
				f.Blocks[0].Insts[0] = i
				is := impl.ShapeOk(alone(f)) && int64(len(impl.OperandsOf(i))) == count
				if m, ok := impl.ReadBytes(s); ok != is || ok && !sameModule(m, alone(f)) {
					t.Error(op, count, w, m, ok)
				}
			}
		}
	}
}

// oneOff has one of these numbers twice, or not at all, or an odd one in its
// place.
func oneOff(numbers []int64, odd []int64, d *dice) []int64 {
	l := copyList(numbers)
	at := d.below(int64(len(l)))
	switch d.below(4) {
	case 0:
		return append(l[:at], l[at+1:]...)
	case 1:
		return append(l[:at+1], numbers[at:]...)
	}
	l[at] = d.oneOf(odd)
	return l
}

// One number is another one, gone or there twice, and the sum put right.
func TestBytesNumberByNumber(t *testing.T) {
	read := 0
	d := &dice{seed: 23}
	odd := []int64{0, 1, 2, 3, 4, 5, 8, 16, 21, 26, 27, 28, 32, 59, 60, 127, 128, 255, 300, impl.MaxConst, impl.MaxConst + 1}
	for seed := range uint64(100) {
		numbers := refNumbersOf(madeModule(seed))
		for range 100 {
			s := bytesOfNumbers(oneOff(numbers, odd, d))
			want, is := refReadBytes(s)
			got, ok := impl.ReadBytes(s)
			if ok != is || !sameModule(got, want) {
				t.Fatalf("%q %v %v", s, ok, is)
			}
			if ok {
				read++
			}
		}
	}
	if read < 300 {
		t.Error(read)
	}
}

// No module in its form has bytes near the limit of what is read, so bytes
// that meet it, or pass it by one, are none; what is read ends well.
func TestLongBytes(t *testing.T) {
	full := impl.ModuleBytes(fullest())
	if len(full) < 2000 || len(full) > 20000 {
		t.Error(len(full))
	}
	body := full[:len(full)-4]
	for _, fill := range []string{"\x00", "\x01", "\x7f", "\x80", "\xff", "\xff\xff\xff\xff\x0f", "\x01\x00", "\x08\x00\x01\x00\x00\x04"} {
		for _, size := range []int{19999, 20000, 20001, 300000} {
			for _, head := range []string{"", "SSA1", "SSA1\x01\x01\x00\x01\x00", "SSA1\xff\xff\xff\xff\x0f", "SSA1\x01\x01\x00\xff\xff\xff\xff\x0f", body} {
				n := size - len(head) - 4
				isNone(t, summed(head+strings.Repeat(fill, n/len(fill)+1)[:n]))
			}
		}
	}
}

func TestBytesWriteNothing(t *testing.T) {
	m := impl.Module{Funcs: []impl.Func{wideFunc(), counted(3)}}
	spare := []int64{8, 16, 77, 78}
	m.Funcs[1].Params = spare[:2]
	was := copyModule(m)
	for range 2 {
		comesBackFromBytes(t, "twice", m)
	}
	if !sameModule(m, was) || !sameList(spare, []int64{8, 16, 77, 78}) {
		t.Error("written into", m, spare)
	}
	a, _ := impl.ReadBytes(impl.ModuleBytes(m))
	b, _ := impl.ReadBytes(impl.ModuleBytes(m))
	if shareMemory(a, b) {
		t.Error("shared")
	}
}

// A text and bytes of the same module lead to the same.
func TestTextsAndBytesAgree(t *testing.T) {
	for seed := range uint64(100) {
		m := madeModule(seed)
		a, _ := impl.ReadModule(impl.ModuleText(m))
		b, _ := impl.ReadBytes(impl.ModuleBytes(m))
		if !sameModule(a, b) || impl.ModuleText(b) != impl.ModuleText(m) || impl.ModuleBytes(a) != impl.ModuleBytes(m) {
			t.Fatal(seed)
		}
	}
}
