package tests

import (
	"math"
	"reflect"
	"testing"

	"loop.example/g00457/impl"
)

func keyIs(t *testing.T, f impl.Func, id int64, want string) {
	t.Helper()
	if key, ok := impl.KeyOf(f, id); key != want || ok != (want != "") {
		t.Errorf("%d: %q %t, not %q", id, key, ok, want)
	}
}

func TestKeysByHand(t *testing.T) {
	f := readFunc(t, "func 8 8 8 1 32\nblock\nconst 8 200\nadd 8 1 0\nadd 8 0 1\nsub 8 1 0\nsub 8 0 1\neq 8 4 1\nselect 8 2 1 0\nzext 16 1\ntrunc 1 0\nload 8 3\nstore 0 3 0\nprint 0 0\ncall 8 0 0 1 2 3\ncopy 8 0\njump 1\nblock\nphi 8 0\nmul 8 18 5\nsext 32 18\nconst 1 1\nret 0\n")
	for id, want := range []string{
		"", "", "", "", "const 8 200", "add 8 0 1", "add 8 0 1", "sub 8 1 0", "sub 8 0 1", "eq 8 1 4", "select 8 2 1 0", "zext 16 1", "trunc 1 0",
		"", "", "", "", "", "", "mul 8 5 18", "sext 32 18", "const 1 1",
	} {
		keyIs(t, f, int64(id), want)
	}
	for _, id := range strangeIds(f) {
		keyIs(t, f, id, "")
	}
}

// Each op, with operands in both orders: a key is the text of the instruction
// with them as they stand, or turned where the op has no order.
func TestKeysOfEachOp(t *testing.T) {
	turns := map[int64]bool{impl.OpAdd: true, impl.OpMul: true, impl.OpAnd: true, impl.OpOr: true, impl.OpXor: true, impl.OpEq: true, impl.OpNe: true}
	for op := int64(1); op <= impl.OpCopy; op++ {
		for _, ids := range [][]int64{{0, 3, 1}, {3, 0, 1}, {2, 2, 0}, {4, 1, 4}, {1, 4, 3}} {
			i := rightInst(op)
			n := len(impl.OperandsOf(i))
			if op != impl.OpCall {
				i = naming(i, ids[:n])
			}
			want := ""
			if op < impl.OpLoad {
				sorted := i
				if turns[op] && sorted.A > sorted.B {
					sorted.A, sorted.B = sorted.B, sorted.A
				}
				want = refInstText(sorted)
			}
			keyIs(t, holding(i).Funcs[0], 4, want)
		}
	}
}

func TestNoKeys(t *testing.T) {
	for name, f := range formless() {
		for id := int64(-1); id <= impl.CountOf(f); id++ {
			if key, ok := impl.KeyOf(f, id); ok || key != "" {
				t.Error(name, id, key)
			}
		}
	}
	// A function in its form need not be right.
	keyIs(t, readFunc(t, "func 8\nblock\nadd 16 3 2\nadd 1 0 0\neq 32 2 1\nconst 8 4\nret 0\n"), 0, "add 16 2 3")
	f := counted(impl.MaxValues)
	keyIs(t, f, impl.MaxValues-1, "const 8 59")
	keyIs(t, f, math.MaxInt64, "")
	keyIs(t, f, math.MinInt64, "")
}

func TestSharedByHand(t *testing.T) {
	passesTo(t, impl.Shared, map[string]string{
		"func 8\nblock\ntrap\n": "func 8\nblock\ntrap\n",
		// In one block: the least of those ahead.
		"func 8 8 8\nblock\nadd 8 0 1\nadd 8 1 0\nadd 8 0 1\nsub 8 0 1\nsub 8 1 0\nsub 8 0 1\nret 4\n": "func 8 8 8\nblock\nadd 8 0 1\ncopy 8 2\ncopy 8 2\nsub 8 0 1\nsub 8 1 0\ncopy 8 5\nret 4\n",
		// A copy is of the width that is given.
		"func 1 8 32\nblock\neq 8 0 0\neq 8 0 0\nult 32 1 1\nult 32 1 1\nzext 16 0\nzext 16 0\nzext 32 0\ntrunc 1 1\ntrunc 1 1\nconst 1 1\nconst 8 1\nconst 1 1\nret 3\n": "func 1 8 32\nblock\neq 8 0 0\ncopy 1 2\nult 32 1 1\ncopy 1 4\nzext 16 0\ncopy 16 6\nzext 32 0\ntrunc 1 1\ncopy 1 9\nconst 1 1\nconst 8 1\ncopy 1 11\nret 3\n",
		// Keys are those of what was given: what names a copy keeps its own.
		"func 8 8\nblock\nadd 8 0 0\nadd 8 0 0\nmul 8 1 1\nmul 8 2 2\nmul 8 1 2\nmul 8 2 1\nret 6\n": "func 8 8\nblock\nadd 8 0 0\ncopy 8 1\nmul 8 1 1\nmul 8 2 2\nmul 8 1 2\ncopy 8 5\nret 6\n",
		// What does more than give is not shared, nor are copies.
		"func 8 32 8\nblock\nload 8 0\nload 8 0\nprint 0 1\nprint 0 1\ncall 8 0 0 1\ncall 8 0 0 1\ncopy 8 1\ncopy 8 1\nret 2\n": "func 8 32 8\nblock\nload 8 0\nload 8 0\nprint 0 1\nprint 0 1\ncall 8 0 0 1\ncall 8 0 0 1\ncopy 8 1\ncopy 8 1\nret 2\n",
		// A division is: where the first one fails nothing comes to the second.
		"func 8 8 8\nblock\nudiv 8 0 1\nudiv 8 0 1\nudiv 8 1 0\nret 3\n": "func 8 8 8\nblock\nudiv 8 0 1\ncopy 8 2\nudiv 8 1 0\nret 3\n",
		// In a block that dominates; not in one beside, nor in one behind.
		"func 8 8 1\nblock\nadd 8 0 0\nbranch 1 1 2\nblock\nadd 8 0 0\nsub 8 0 0\njump 3\nblock\nsub 8 0 0\njump 3\nblock\nsub 8 0 0\nadd 8 0 0\nret 6\n": "func 8 8 1\nblock\nadd 8 0 0\nbranch 1 1 2\nblock\ncopy 8 2\nsub 8 0 0\njump 3\nblock\nsub 8 0 0\njump 3\nblock\nsub 8 0 0\ncopy 8 2\nret 6\n",
		// A block that dominates may stand behind: then the least id is not the one that runs first.
		"func 8 8\nblock\njump 2\nblock\nadd 8 0 0\nadd 8 0 0\nret 2\nblock\nadd 8 0 0\njump 1\n": "func 8 8\nblock\njump 2\nblock\ncopy 8 3\ncopy 8 1\nret 2\nblock\nadd 8 0 0\njump 1\n",
		// A loop does not stand ahead of itself.
		"func 8 8 1\nblock\njump 1\nblock\nadd 8 0 0\nbranch 1 1 2\nblock\nadd 8 0 0\nret 3\n": "func 8 8 1\nblock\njump 1\nblock\nadd 8 0 0\nbranch 1 1 2\nblock\ncopy 8 2\nret 3\n",
		// Where no run comes nothing is shared, and nothing is with it.
		"func 8 8\nblock\njump 2\nblock\nadd 8 0 0\nadd 8 0 0\njump 2\nblock\nadd 8 0 0\nret 3\nblock\nadd 8 0 0\ntrap\n": "func 8 8\nblock\njump 2\nblock\nadd 8 0 0\nadd 8 0 0\njump 2\nblock\nadd 8 0 0\nret 3\nblock\nadd 8 0 0\ntrap\n",
		// Phis keep their places, and are not shared.
		"func 8 8\nblock\nconst 8 1\njump 1\nblock\nphi 8 0\nphi 8 0\nconst 8 1\nadd 8 2 2\nadd 8 3 3\nadd 8 2 2\nret 7\n": "func 8 8\nblock\nconst 8 1\njump 1\nblock\nphi 8 0\nphi 8 0\ncopy 8 1\nadd 8 2 2\nadd 8 3 3\ncopy 8 5\nret 7\n",
		// Function by function.
		"func 8 8\nblock\nadd 8 0 0\nret 1\nfunc 8 8\nblock\nadd 8 0 0\nadd 8 0 0\nret 1\n": "func 8 8\nblock\nadd 8 0 0\nret 1\nfunc 8 8\nblock\nadd 8 0 0\ncopy 8 1\nret 1\n",
	})
}

// refShared asks, of each instruction, all lesser and greater ids, by lists of
// what is seen.
func refShared(f impl.Func) impl.Func {
	out := copyFunc(f)
	d := refDrawing(f)
	var keys []string
	for range f.Params {
		keys = append(keys, "")
	}
	for _, b := range f.Blocks {
		for range b.Phis {
			keys = append(keys, "")
		}
		for _, i := range b.Insts {
			key := ""
			if i.Op < impl.OpLoad {
				if has([]int64{impl.OpAdd, impl.OpMul, impl.OpAnd, impl.OpOr, impl.OpXor, impl.OpEq, impl.OpNe}, i.Op) && i.B < i.A {
					i.A, i.B = i.B, i.A
				}
				key = refInstText(i)
			}
			keys = append(keys, key)
		}
	}
	id := len(f.Params)
	for b, block := range out.Blocks {
		id += len(block.Phis)
		for at := range block.Insts {
			for _, other := range refSeen(f, d, int64(b), len(block.Phis)+at) {
				if keys[id] != "" && keys[other] == keys[id] && has(d.reached, int64(b)) {
					block.Insts[at] = impl.Inst{Op: impl.OpCopy, W: impl.TypeOf(f, int64(id)), A: other}
					break
				}
			}
			id++
		}
	}
	return out
}

func TestSharedAgainstOtherWays(t *testing.T) {
	shared := 0
	for seed := range uint64(400) {
		m := busyModule(seed)
		var want impl.Module
		for _, f := range m.Funcs {
			want.Funcs = append(want.Funcs, refShared(f))
		}
		got, ok := impl.Shared(m)
		if !ok || !sameModule(got, want) {
			t.Fatal(impl.ModuleText(m), impl.ModuleText(got), impl.ModuleText(want))
		}
		if !sameModule(got, m) {
			shared++
		}
	}
	if shared < 200 {
		t.Error(shared)
	}
}

// Of two with one key none dominates the other: neither in its block, nor by
// it.
func TestWhatIsSharedHasNoTwoWithOneKey(t *testing.T) {
	pairs := 0
	for seed := range uint64(300) {
		m, ok := impl.Shared(busyModule(seed))
		if !ok {
			t.Fatal(seed)
		}
		for _, f := range m.Funcs {
			for id := range impl.CountOf(f) {
				key, ok := impl.KeyOf(f, id)
				for other := range impl.CountOf(f) {
					same, is := impl.KeyOf(f, other)
					if !ok || !is || same != key || id == other {
						continue
					}
					pairs++
					a, at := impl.PlaceOf(f, id)
					b, place := impl.PlaceOf(f, other)
					if a == b && at < place && impl.Dominates(f, a, a) || a != b && impl.Dominates(f, a, b) {
						t.Fatal(impl.ModuleText(m), id, other)
					}
				}
			}
		}
	}
	if pairs < 50 {
		t.Error(pairs)
	}
}

func TestWhatIsSharedRunsStepByStep(t *testing.T) { runsStepByStep(t, impl.Shared) }

// One after the other, they lead to what still runs as it did.
func TestPassesOneAfterTheOther(t *testing.T) {
	d := &dice{seed: 18}
	all := []pass{impl.Folded, impl.CopiesGone, impl.Cleaned, impl.Shared}
	ran := 0
	for seed := range uint64(200) {
		m := busyModule(seed)
		out := m
		for range 8 {
			next, ok := all[d.below(int64(len(all)))](out)
			if !ok || impl.Checked(next) != impl.VfOk {
				t.Fatal(impl.ModuleText(out), ok, impl.Checked(next))
			}
			out = next
		}
		ran += runsAlike(t, m, out, d, false)
	}
	if ran < 400 {
		t.Error(ran)
	}
}

func TestSharedRefuses(t *testing.T) { refusesWrong(t, impl.Shared) }

func TestSharingWritesNothing(t *testing.T) {
	writesNothing(t, impl.Shared)
	for seed := range uint64(40) {
		m := roomy(busyModule(seed))
		for _, f := range m.Funcs {
			for id := range impl.CountOf(f) {
				a, is := impl.KeyOf(f, id)
				b, again := impl.KeyOf(f, id)
				if a != b || is != again {
					t.Fatal(seed, id, a, b)
				}
			}
		}
		if !reflect.DeepEqual(allOf(m), allOf(roomy(busyModule(seed)))) {
			t.Fatal(seed, "written into an argument")
		}
	}
}
