package tests

import (
	"math"
	"reflect"
	"slices"
	"strings"
	"testing"

	"loop.example/g00457/impl"
)

func passNames() []string {
	return []string{"fold", "copies", "clean", "share", "choose", "prune", "join", "facts", "split"}
}

// eachPass has at the place of its word, as passNames tells them, what a pass
// does.
func eachPass() []pass {
	return []pass{impl.Folded, impl.CopiesGone, impl.Cleaned, impl.Shared, impl.Chosen, impl.Pruned, impl.Joined, impl.Propagated, impl.Split}
}

func strangePasses() []int64 {
	return []int64{math.MinInt64, -9, -1, 0, 10, 11, 12, 13, 256 + 1, 1 << 32, math.MaxInt64}
}

// manyPasses is a list of that many, each of the nine in turn.
func manyPasses(n int) []int64 {
	var l []int64
	for k := range n {
		l = append(l, int64(k%9)+1)
	}
	return l
}

func TestPassesByHand(t *testing.T) {
	for text, want := range map[string][]int64{
		"":       nil,
		"fold":   {impl.PsFold},
		"copies": {impl.PsCopies},
		"clean":  {impl.PsClean},
		"share":  {impl.PsShare},
		"choose": {impl.PsChoose},
		"prune":  {impl.PsPrune},
		"join":   {impl.PsJoin},
		"facts":  {impl.PsFacts},
		"split":  {impl.PsSplit},
		"fold,copies,clean,share,choose,prune,join,facts,split": {1, 2, 3, 4, 5, 6, 7, 8, 9},
		"split,facts,fold": {9, 8, 1},
		"clean,clean":      {3, 3},
		"join,join,join,join,join,join,join,join,join,join,join,join":             {7, 7, 7, 7, 7, 7, 7, 7, 7, 7, 7, 7},
		"fold,copies,clean,share,choose,prune,join,facts,split,fold,copies,clean": {1, 2, 3, 4, 5, 6, 7, 8, 9, 1, 2, 3},
	} {
		if l, ok := impl.PassesOf(text); !ok || !sameList(l, want) {
			t.Errorf("%q: %v %t", text, l, ok)
		}
		if s := impl.PassText(want); s != text {
			t.Errorf("%v: %q", want, s)
		}
	}
	if s := impl.PassText([]int64{}); s != "" {
		t.Error(s)
	}
}

func TestTextsOfNoPasses(t *testing.T) {
	thirteen := strings.Repeat("fold,", impl.MaxPass) + "fold"
	for _, s := range []string{
		",", ",,", ",fold", "fold,", "fold,,clean", "fold,clean,", ",fold,clean", "fold,,", ",,fold",
		" ", "fold ", " fold", "fold, clean", "fold ,clean", "fold clean", "fold;clean", "fold.clean", "fold\nclean", "fold\n", "\nfold", "fold\x00", "fold\t",
		"fly", "fold,fly", "fly,fold", "fold,fly,clean", "Fold", "FOLD", "fol", "folds", "foldclean", "copy", "copie", "fact", "propagate", "1", "fold,2", "0", "fold,0", "fôld",
		thirteen, thirteen + ",", strings.Repeat("clean,", 5000) + "clean", strings.Repeat(",", impl.MaxPass), strings.Repeat(",", 100000), strings.Repeat("f", 100000),
	} {
		if l, ok := impl.PassesOf(s); ok || len(l) > 0 {
			t.Errorf("%.60q: %v %t", s, l, ok)
		}
	}
	if l, ok := impl.PassesOf(strings.TrimSuffix(thirteen, ",fold")); !ok || len(l) != impl.MaxPass {
		t.Error(l, ok)
	}
}

func TestListsThatAreNoPasses(t *testing.T) {
	for n := range 30 {
		if s := impl.PassText(manyPasses(n)); (s == "") != (n == 0 || n > impl.MaxPass) {
			t.Error(n, s)
		}
	}
	for _, p := range strangePasses() {
		for n := range impl.MaxPass {
			for at := range n + 1 {
				l := slices.Insert(manyPasses(n), at, p)
				if s := impl.PassText(l); s != "" {
					t.Error(l, s)
				}
			}
		}
	}
	if s := impl.PassText(manyPasses(1000000)); s != "" {
		t.Error(len(s))
	}
}

// refPassesOf takes one word after the other off the front.
func refPassesOf(s string) ([]int64, bool) {
	var l []int64
	for s != "" {
		at := -1
		for k, word := range passNames() {
			if s == word || strings.HasPrefix(s, word+",") && len(s) > len(word)+1 {
				at = k
			}
		}
		if at < 0 || len(l) == impl.MaxPass {
			return nil, false
		}
		l = append(l, int64(at)+1)
		s = strings.TrimPrefix(s[len(passNames()[at]):], ",")
	}
	return l, true
}

func TestPassesByteByByte(t *testing.T) {
	read, all := 0, 0
	for _, l := range [][]int64{nil, {1}, {9}, {2, 3}, {4, 5, 6}, {7, 8, 9, 1}, manyPasses(impl.MaxPass - 1), manyPasses(impl.MaxPass), manyPasses(impl.MaxPass + 1)} {
		var words []string
		for _, p := range l {
			words = append(words, passNames()[p-1])
		}
		for _, s := range append(edits(strings.Join(words, ","), ", fecsj\n\x00\xff"), strings.Join(words, ",")) {
			want, is := refPassesOf(s)
			got, ok := impl.PassesOf(s)
			if ok != is || !sameList(got, want) {
				t.Fatalf("%q: %v %t, not %v %t", s, got, ok, want, is)
			}
			all++
			if ok {
				read++
				if impl.PassText(got) != s {
					t.Fatalf("%q: %q", s, impl.PassText(got))
				}
			}
		}
	}
	if read < 10 || all < 3000 {
		t.Error(read, all)
	}
}

func TestEachPass(t *testing.T) {
	changed := [10]int{}
	refused := 0
	for _, m := range graphModules(60) {
		for k, p := range eachPass() {
			want, is := p(m)
			got, ok := impl.RunPass(m, int64(k)+1)
			if ok != is || !sameModule(got, want) {
				t.Fatal(k, ok, is, impl.ModuleText(m), impl.ModuleText(got), impl.ModuleText(want))
			}
			if !ok {
				refused++
			} else if !sameModule(got, m) {
				changed[k+1]++
			}
		}
	}
	for p := impl.PsFold; p <= impl.PsSplit; p++ {
		if changed[p] < 20 {
			t.Error(p, changed)
		}
	}
	if refused == 0 {
		t.Error(refused)
	}
}

// One module in which each of the nine does something of its own.
func TestEachPassByItsNumber(t *testing.T) {
	m := rightModule(t, "func 8 8 1\nblock\nconst 1 1\nadd 8 0 0\nadd 8 0 0\ncopy 8 4\nsub 8 5 5\nxor 1 2 2\nxor 1 1 7\nbranch 2 1 2\nblock\nbranch 8 2 3\nblock\nphi 8 5 6\nprint 0 9\njump 4\nblock\ntrap\nblock\nret 9\nblock\nret 0\n")
	seen := map[string]int64{impl.ModuleText(m): 0}
	for p := int64(impl.PsFold); p <= impl.PsSplit; p++ {
		out, ok := impl.RunPass(m, p)
		want, _ := eachPass()[p-1](m)
		if !ok || impl.ModuleText(out) != impl.ModuleText(want) {
			t.Fatal(p, ok)
		}
		if q, there := seen[impl.ModuleText(out)]; there {
			t.Error(p, q, impl.ModuleText(out))
		}
		seen[impl.ModuleText(out)] = p
	}
}

func TestNoSuchPass(t *testing.T) {
	for seed := range uint64(10) {
		for _, p := range strangePasses() {
			if out, ok := impl.RunPass(busyModule(seed), p); ok || len(out.Funcs) > 0 {
				t.Error(seed, p, out)
			}
		}
	}
	for _, p := range strangePasses() {
		if out, ok := impl.RunPass(impl.Module{}, p); ok || len(out.Funcs) > 0 {
			t.Error(p, out)
		}
	}
}

func TestRunPassRefuses(t *testing.T) {
	for p := int64(impl.PsFold); p <= impl.PsSplit; p++ {
		refusesWrong(t, func(m impl.Module) (impl.Module, bool) { return impl.RunPass(m, p) })
	}
}

// passing is a pass that runs a list.
func passing(l ...int64) pass {
	return func(m impl.Module) (impl.Module, bool) { return impl.RunPasses(m, l) }
}

// dumping is a pass that runs a list and goes these ways.
func dumping(l []int64, how ...int64) pass {
	return func(m impl.Module) (impl.Module, bool) { return impl.RunDumped(m, l, how) }
}

func TestRunPassesByHand(t *testing.T) {
	text := "func 8 8\nblock\nconst 8 0\nadd 8 0 1\nprint 0 2\nret 2\n"
	for _, x := range []struct {
		passes string
		want   string
	}{
		{"", text},
		{"fold", "func 8 8\nblock\nconst 8 0\ncopy 8 0\nprint 0 2\nret 2\n"},
		{"copies", text},
		{"fold,copies", "func 8 8\nblock\nconst 8 0\ncopy 8 0\nprint 0 0\nret 0\n"},
		{"copies,fold", "func 8 8\nblock\nconst 8 0\ncopy 8 0\nprint 0 2\nret 2\n"},
		{"fold,copies,clean", "func 8 8\nblock\nprint 0 0\nret 0\n"},
		{"clean,fold,copies", "func 8 8\nblock\nconst 8 0\ncopy 8 0\nprint 0 0\nret 0\n"},
		{"fold,clean,copies", "func 8 8\nblock\ncopy 8 0\nprint 0 0\nret 0\n"},
		{"fold,clean,copies,clean", "func 8 8\nblock\nprint 0 0\nret 0\n"},
	} {
		l, ok := impl.PassesOf(x.passes)
		if !ok {
			t.Fatal(x.passes)
		}
		passesTo(t, passing(l...), map[string]string{text: x.want})
		for how := range int64(3) {
			passesTo(t, dumping(l, slices.Repeat([]int64{how}, len(l)+1)...), map[string]string{text: x.want})
		}
	}
}

// Without passes a module stays as it is, in new memory.
func TestRunPassesWithNone(t *testing.T) {
	for seed := range uint64(60) {
		m := roomy(busyModule(seed))
		for _, p := range []pass{passing(), dumping(nil, 0), dumping(nil, 1), dumping(nil, 2), dumping([]int64{}, 0)} {
			out, ok := p(m)
			if !ok || !sameModule(out, m) || shareMemory(m, out) {
				t.Fatal(seed, ok, impl.ModuleText(m), impl.ModuleText(out))
			}
		}
	}
}

func TestRunPassesRefuses(t *testing.T) {
	refusesWrong(t, passing())
	for p := int64(impl.PsFold); p <= impl.PsSplit; p++ {
		refusesWrong(t, passing(p))
	}
	refusesWrong(t, passing(manyPasses(impl.MaxPass)...))
	for how := range int64(3) {
		refusesWrong(t, dumping(nil, how))
		refusesWrong(t, dumping([]int64{impl.PsClean}, how, 0))
	}
}

// A module in its form that is not right comes back from texts and bytes, and
// is refused all the same.
func TestDumpsOfWhatIsNotRight(t *testing.T) {
	m, ok := impl.ReadModule("func 8 16\nblock\nret 0\n")
	if !ok || impl.Checked(m) != impl.VfType {
		t.Fatal(ok)
	}
	for how := range int64(3) {
		if out, ok := impl.RunDumped(m, nil, []int64{how}); ok || len(out.Funcs) > 0 {
			t.Error(how, out)
		}
	}
}

func TestRunPassesOfListsThatAreNone(t *testing.T) {
	m := rightModule(t, "func 8 8\nblock\nret 0\n")
	refused := func(l []int64) {
		t.Helper()
		if out, ok := impl.RunPasses(m, l); ok || len(out.Funcs) > 0 {
			t.Error(l, out)
		}
		if out, ok := impl.RunDumped(m, l, make([]int64, len(l)+1)); ok || len(out.Funcs) > 0 {
			t.Error(l, out)
		}
	}
	for n := impl.MaxPass + 1; n < 30; n++ {
		refused(manyPasses(n))
	}
	refused(manyPasses(100000))
	for _, p := range strangePasses() {
		for n := range impl.MaxPass {
			for at := range n + 1 {
				refused(slices.Insert(manyPasses(n), at, p))
			}
		}
	}
	if out, ok := impl.RunPasses(m, manyPasses(impl.MaxPass)); !ok || !sameModule(out, m) {
		t.Error(ok, out)
	}
}

// One that is false ends all, wherever it stands in the list, unless what
// stands ahead of it makes room.
func TestRunPassesWithTooManyBlocks(t *testing.T) {
	full := alone(withEdges(impl.MaxBlocks, 1))
	for _, l := range [][]int64{{9}, {9, 1}, {1, 9}, {9, 6}, {4, 3, 9, 2}, {3, 3, 3, 3, 3, 3, 3, 3, 3, 3, 3, 9}, {9, 9}} {
		if out, ok := impl.RunPasses(full, l); ok || len(out.Funcs) > 0 {
			t.Error(l, out)
		}
		for how := range int64(3) {
			if out, ok := impl.RunDumped(full, l, slices.Repeat([]int64{how}, len(l)+1)); ok || len(out.Funcs) > 0 {
				t.Error(l, how, out)
			}
		}
	}
	// Those that no run reaches go first, and there is room.
	out, ok := impl.RunPasses(full, []int64{impl.PsPrune, impl.PsSplit})
	pruned, _ := impl.Pruned(full)
	want, _ := impl.Split(pruned)
	if !ok || !sameModule(out, want) || len(out.Funcs[0].Blocks) != 4 {
		t.Error(ok, out)
	}
	// Just as many as there may be.
	just := alone(withEdges(impl.MaxBlocks-1, 1))
	if out, ok := impl.RunPasses(just, []int64{impl.PsSplit, impl.PsSplit}); !ok || len(out.Funcs[0].Blocks) != impl.MaxBlocks {
		t.Error(ok, out)
	}
	// One function of several is enough.
	m := repeated(withEdges(4, 1), impl.MaxFuncs)
	m.Funcs[impl.MaxFuncs-1] = withEdges(impl.MaxBlocks, 1)
	if out, ok := impl.RunPasses(m, []int64{impl.PsSplit}); ok || len(out.Funcs) > 0 {
		t.Error(out)
	}
}

func TestDumpsOfOtherLengths(t *testing.T) {
	m := rightModule(t, "func 8 8\nblock\nret 0\n")
	for n := range impl.MaxPass + 1 {
		for many := range impl.MaxPass + 4 {
			for how := range int64(3) {
				out, ok := impl.RunDumped(m, manyPasses(n), slices.Repeat([]int64{how}, many))
				if ok != (many == n+1) || ok != (len(out.Funcs) == 1) {
					t.Error(n, many, how, ok, out)
				}
			}
		}
	}
	if out, ok := impl.RunDumped(m, manyPasses(impl.MaxPass+1), make([]int64, impl.MaxPass+2)); ok || len(out.Funcs) > 0 {
		t.Error(out)
	}
}

func TestDumpsByNoWay(t *testing.T) {
	m := rightModule(t, "func 8 8\nblock\nret 0\n")
	for _, way := range []int64{math.MinInt64, -3, -2, -1, 3, 4, 5, 256, 257, 1 << 32, math.MaxInt64} {
		for n := range impl.MaxPass + 1 {
			for at := range n + 1 {
				how := make([]int64, n+1)
				how[at] = way
				if out, ok := impl.RunDumped(m, manyPasses(n), how); ok || len(out.Funcs) > 0 {
					t.Error(way, n, at, out)
				}
			}
		}
	}
}

// pickedPasses is a list made of dice.
func pickedPasses(d *dice) []int64 {
	var l []int64
	for range d.below(impl.MaxPass + 1) {
		l = append(l, 1+d.below(9))
	}
	return l
}

// One by one, by what each function does; false as soon as one is.
func refRunPasses(m impl.Module, l []int64) (impl.Module, bool) {
	out, ok := copyModule(m), true
	for _, p := range l {
		if out, ok = eachPass()[p-1](out); !ok {
			return impl.Module{}, false
		}
	}
	return out, true
}

func TestRunPassesAgainstOtherWays(t *testing.T) {
	d := &dice{seed: 81}
	refused, changed := 0, 0
	for _, m := range graphModules(200) {
		l := pickedPasses(d)
		want, is := refRunPasses(m, l)
		got, ok := impl.RunPasses(m, l)
		if ok != is || !sameModule(got, want) {
			t.Fatal(l, ok, is, impl.ModuleText(m), impl.ModuleText(got), impl.ModuleText(want))
		}
		if !ok {
			refused++
		} else if !sameModule(got, m) {
			changed++
		}
	}
	if refused < 10 || changed < 100 {
		t.Error(refused, changed)
	}
}

// What a list does, its two halves do one after the other.
func TestRunPassesInTwoHalves(t *testing.T) {
	d := &dice{seed: 82}
	for _, m := range graphModules(60) {
		l := pickedPasses(d)
		at := d.below(int64(len(l)) + 1)
		whole, ok := impl.RunPasses(m, l)
		half, is := impl.RunPasses(m, l[:at])
		if is {
			half, is = impl.RunPasses(half, l[at:])
		}
		if ok != is || !sameModule(whole, half) {
			t.Fatal(l, at, ok, is)
		}
	}
}

// Whatever passes are run, what comes of them is right and runs as it did.
func TestWhateverPassesAreRunAllRunsAsItDid(t *testing.T) {
	d := &dice{seed: 83}
	ran, changed := 0, 0
	for _, m := range graphModules(300) {
		out, ok := impl.RunPasses(m, pickedPasses(d))
		if !ok {
			continue
		}
		if c := impl.Checked(out); c != impl.VfOk || !impl.ShapeOk(out) {
			t.Fatal(impl.ModuleText(m), c)
		}
		ran += runsAlike(t, m, out, d, false)
		if !sameModule(out, m) {
			changed++
		}
	}
	if ran < 1500 || changed < 200 {
		t.Error(ran, changed)
	}
}

// Written and read again at whatever places they lead to the same.
func TestDumpsLeadToTheSame(t *testing.T) {
	d := &dice{seed: 84}
	refused, went := 0, 0
	for _, m := range graphModules(120) {
		l := pickedPasses(d)
		want, is := impl.RunPasses(m, l)
		for range 4 {
			how := make([]int64, len(l)+1)
			for at := range how {
				how[at] = d.below(3)
			}
			got, ok := impl.RunDumped(m, l, how)
			if ok != is || !sameModule(got, want) {
				t.Fatal(l, how, ok, is, impl.ModuleText(m), impl.ModuleText(got), impl.ModuleText(want))
			}
			if ok {
				went++
			} else {
				refused++
			}
		}
	}
	if refused < 10 || went < 500 {
		t.Error(refused, went)
	}
}

// At one place alone, and at each of them.
func TestDumpsAtEachPlace(t *testing.T) {
	for seed := range uint64(12) {
		m := busyModule(seed)
		l := manyPasses(8)
		want, is := impl.RunPasses(m, l)
		for at := range len(l) + 1 {
			for way := range int64(3) {
				how := make([]int64, len(l)+1)
				how[at] = way
				got, ok := impl.RunDumped(m, l, how)
				if !ok || !is || !sameModule(got, want) {
					t.Fatal(seed, at, way, ok, is)
				}
			}
		}
	}
}

// The largest modules go through texts and bytes as well.
func TestDumpsAtLimits(t *testing.T) {
	right := 0
	for name, m := range modulesAtLimits() {
		if impl.Checked(m) != impl.VfOk {
			continue
		}
		right++
		for _, how := range [][]int64{{0, 0}, {1, 2}, {2, 1}} {
			want, is := impl.Cleaned(m)
			if got, ok := impl.RunDumped(m, []int64{impl.PsClean}, how); ok != is || !sameModule(got, want) {
				t.Error(name, how, ok)
			}
		}
	}
	if right < 4 {
		t.Error(right)
	}
}

func TestDrivingWritesNothing(t *testing.T) {
	for p := int64(impl.PsFold); p <= impl.PsSplit; p++ {
		writesNothing(t, func(m impl.Module) (impl.Module, bool) { return impl.RunPass(m, p) })
	}
	writesNothing(t, passing())
	writesNothing(t, passing(1, 2, 3, 4, 5, 6, 7, 8))
	writesNothing(t, dumping([]int64{3, 7}, 0, 0, 0))
	writesNothing(t, dumping([]int64{2, 9}, 1, 2, 0))
	writesNothing(t, dumping(nil, 0))
	m := busyModule(5)
	l, how := roomyList([]int64{1, 2, 3, 8}), roomyList([]int64{0, 1, 2, 0, 1})
	lists := func() []int64 { return append(copyList(l[:cap(l)]), how[:cap(how)]...) }
	was := lists()
	a, _ := impl.RunDumped(m, l, how)
	b, _ := impl.RunPasses(m, l)
	s := impl.PassText(l)
	if !sameList(lists(), was) || !sameModule(a, b) || s != impl.PassText(l) || shareMemory(m, l, how, a, b) {
		t.Error(l, how, s)
	}
	first, ok := impl.PassesOf("fold,clean")
	second, again := impl.PassesOf("fold,clean")
	if !ok || !again || !reflect.DeepEqual(first, second) || shareMemory(first, second) {
		t.Error(first, second)
	}
	first[0] = 9
	if third, _ := impl.PassesOf("fold,clean"); !sameList(third, second) || impl.PassText(second) != "fold,clean" {
		t.Error(third, second)
	}
}
