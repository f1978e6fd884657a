package tests

import (
	"slices"
	"testing"

	"loop.example/g00457/impl"
)

// graphModules are right modules with much to do among their blocks: some with
// much in each block, some with many blocks.
func graphModules(count uint64) []impl.Module {
	var l []impl.Module
	for seed := range count {
		l = append(l, busyModule(seed), wideModule(seed))
	}
	return l
}

func TestChosenByHand(t *testing.T) {
	passesTo(t, impl.Chosen, map[string]string{
		"func 8\nblock\ntrap\n": "func 8\nblock\ntrap\n",
		// 1 and 0, without phis.
		"func 8\nblock\nconst 1 1\nbranch 0 1 2\nblock\ntrap\nblock\nconst 8 3\nret 1\n": "func 8\nblock\nconst 1 1\njump 1\nblock\ntrap\nblock\nconst 8 3\nret 1\n",
		"func 8\nblock\nconst 1 0\nbranch 0 1 2\nblock\ntrap\nblock\nconst 8 3\nret 1\n": "func 8\nblock\nconst 1 0\njump 2\nblock\ntrap\nblock\nconst 8 3\nret 1\n",
		"func 8\nblock\nconst 1 0\nbranch 0 2 1\nblock\ntrap\nblock\nconst 8 3\nret 1\n": "func 8\nblock\nconst 1 0\njump 1\nblock\ntrap\nblock\nconst 8 3\nret 1\n",
		// Phis where it goes stay, those where it went have nothing any more.
		"func 8 8\nblock\nconst 1 1\nbranch 1 1 2\nblock\nphi 8 0\nphi 1 1\nret 2\nblock\nphi 8 0\nphi 1 1\nret 4\n": "func 8 8\nblock\nconst 1 1\njump 1\nblock\nphi 8 0\nphi 1 1\nret 2\nblock\nphi 8\nphi 1\nret 4\n",
		"func 8 8\nblock\nconst 1 0\nbranch 1 1 2\nblock\nphi 8 0\nphi 1 1\nret 2\nblock\nphi 8 0\nphi 1 1\nret 4\n": "func 8 8\nblock\nconst 1 0\njump 2\nblock\nphi 8\nphi 1\nret 2\nblock\nphi 8 0\nphi 1 1\nret 4\n",
		// Only what they have for this block goes: the first, one between, the last.
		"func 8 8 8 8 1\nblock\nconst 1 1\nbranch 4 1 2\nblock\nbranch 4 3 4\nblock\nbranch 4 3 4\nblock\nbranch 4 5 4\nblock\nphi 8 0 1 2\nret 5\nblock\ntrap\n": "func 8 8 8 8 1\nblock\nconst 1 1\njump 1\nblock\njump 3\nblock\njump 3\nblock\njump 5\nblock\nphi 8\nret 5\nblock\ntrap\n",
		"func 8 8 8 8 1\nblock\nconst 1 1\nbranch 3 1 2\nblock\nbranch 4 3 4\nblock\nbranch 3 3 4\nblock\nbranch 3 5 4\nblock\nphi 8 0 1 2\nret 5\nblock\ntrap\n": "func 8 8 8 8 1\nblock\nconst 1 1\nbranch 3 1 2\nblock\njump 3\nblock\nbranch 3 3 4\nblock\nbranch 3 5 4\nblock\nphi 8 1 2\nret 5\nblock\ntrap\n",
		"func 8 8 8 8 1\nblock\nconst 1 1\nbranch 3 1 2\nblock\nbranch 3 3 4\nblock\nbranch 4 3 4\nblock\nbranch 3 5 4\nblock\nphi 8 0 1 2\nret 5\nblock\ntrap\n": "func 8 8 8 8 1\nblock\nconst 1 1\nbranch 3 1 2\nblock\nbranch 3 3 4\nblock\njump 3\nblock\nbranch 3 5 4\nblock\nphi 8 0 2\nret 5\nblock\ntrap\n",
		"func 8 8 8 8 1\nblock\nconst 1 1\nbranch 3 1 2\nblock\nbranch 3 3 4\nblock\nbranch 3 3 4\nblock\nbranch 4 5 4\nblock\nphi 8 0 1 2\nret 5\nblock\ntrap\n": "func 8 8 8 8 1\nblock\nconst 1 1\nbranch 3 1 2\nblock\nbranch 3 3 4\nblock\nbranch 3 3 4\nblock\njump 5\nblock\nphi 8 0 1\nret 5\nblock\ntrap\n",
		"func 8 8 8 8 1\nblock\nconst 1 1\nbranch 3 1 2\nblock\nbranch 4 3 4\nblock\nbranch 3 3 4\nblock\nbranch 4 5 4\nblock\nphi 8 0 1 2\nret 5\nblock\ntrap\n": "func 8 8 8 8 1\nblock\nconst 1 1\nbranch 3 1 2\nblock\njump 3\nblock\nbranch 3 3 4\nblock\njump 5\nblock\nphi 8 1\nret 5\nblock\ntrap\n",
		// A loop on itself, that goes on and that ends.
		"func 8 8\nblock\nconst 1 0\njump 1\nblock\nphi 8 0 2\nbranch 1 1 2\nblock\nret 2\n": "func 8 8\nblock\nconst 1 0\njump 1\nblock\nphi 8 0\njump 2\nblock\nret 2\n",
		"func 8 8\nblock\nconst 1 1\njump 1\nblock\nphi 8 0 2\nbranch 1 1 2\nblock\nret 2\n": "func 8 8\nblock\nconst 1 1\njump 1\nblock\nphi 8 0 2\njump 1\nblock\nret 2\n",
		// A copy of a constant is none, nor is a phi of constants or a parameter.
		"func 8 1\nblock\nconst 1 1\ncopy 1 1\nbranch 2 1 2\nblock\nphi 1 1\nbranch 3 2 3\nblock\nbranch 0 3 4\nblock\ntrap\nblock\ntrap\n": "func 8 1\nblock\nconst 1 1\ncopy 1 1\nbranch 2 1 2\nblock\nphi 1 1\nbranch 3 2 3\nblock\nbranch 0 3 4\nblock\ntrap\nblock\ntrap\n",
		// Where no run comes, too; and by a constant that stands behind.
		"func 8 8\nblock\njump 2\nblock\nbranch 1 3 4\nblock\nconst 1 0\njump 3\nblock\nphi 8 0 0\nret 2\nblock\nphi 8 0\nret 3\n": "func 8 8\nblock\njump 2\nblock\njump 4\nblock\nconst 1 0\njump 3\nblock\nphi 8 0\nret 2\nblock\nphi 8 0\nret 3\n",
		// Function by function.
		"func 8 1\nblock\nbranch 0 1 2\nblock\ntrap\nblock\ntrap\nfunc 8\nblock\nconst 1 1\nbranch 0 1 2\nblock\ntrap\nblock\ntrap\n": "func 8 1\nblock\nbranch 0 1 2\nblock\ntrap\nblock\ntrap\nfunc 8\nblock\nconst 1 1\njump 1\nblock\ntrap\nblock\ntrap\n",
	})
}

// refChosen goes block by block, each time by who leads where then.
func refChosen(f impl.Func, answer func(id int64) (int64, bool)) impl.Func {
	g := copyFunc(f)
	for b := range g.Blocks {
		e := g.Blocks[b].Term
		v, known := answer(e.A)
		if e.Kind != impl.TmBranch || !known {
			continue
		}
		taken, left := e.Y, e.X
		if v == 1 {
			taken, left = e.X, e.Y
		}
		at := slices.Index(refDrawing(g).preds[left], int64(b))
		for k := range g.Blocks[left].Phis {
			p := &g.Blocks[left].Phis[k]
			p.Ins = append(copyList(p.Ins[:at]), p.Ins[at+1:]...)
		}
		g.Blocks[b].Term = jumpTo(taken)
	}
	return g
}

// holdsAgainst holds a pass against another way to do the same, function by
// function, and asks that it does something in as many modules.
func holdsAgainst(t *testing.T, p pass, ref func(f impl.Func) impl.Func, atLeast int) {
	t.Helper()
	changed := 0
	for _, m := range graphModules(300) {
		var want impl.Module
		for _, f := range m.Funcs {
			want.Funcs = append(want.Funcs, ref(f))
		}
		got, ok := p(m)
		if !ok || !sameModule(got, want) {
			t.Fatal(impl.ModuleText(m), impl.ModuleText(got), impl.ModuleText(want))
		}
		if !sameModule(got, m) {
			changed++
		}
	}
	if changed < atLeast {
		t.Error(changed)
	}
}

func TestChosenAgainstOtherWays(t *testing.T) {
	holdsAgainst(t, impl.Chosen, func(f impl.Func) impl.Func {
		return refChosen(f, func(id int64) (int64, bool) { return impl.ConstOf(f, id) })
	}, 200)
}

func TestPrunedByHand(t *testing.T) {
	passesTo(t, impl.Pruned, map[string]string{
		"func 8\nblock\ntrap\n": "func 8\nblock\ntrap\n",
		// Nothing to leave out, in whatever order the blocks stand.
		"func 8 8 1\nblock\nbranch 1 3 2\nblock\nphi 8 0 0\nret 2\nblock\njump 1\nblock\njump 1\n": "func 8 8 1\nblock\nbranch 1 3 2\nblock\nphi 8 0 0\nret 2\nblock\njump 1\nblock\njump 1\n",
		// One in the middle, one at the end, several.
		"func 8 8\nblock\nconst 8 1\njump 2\nblock\nadd 8 0 0\njump 2\nblock\nsub 8 0 1\nret 3\n":                                                                                "func 8 8\nblock\nconst 8 1\njump 1\nblock\nsub 8 0 1\nret 2\n",
		"func 8 8\nblock\nconst 8 1\nret 1\nblock\nadd 8 0 0\njump 1\n":                                                                                                          "func 8 8\nblock\nconst 8 1\nret 1\n",
		"func 8 8 1\nblock\nbranch 1 2 5\nblock\nadd 8 0 0\njump 2\nblock\nsub 8 0 0\nprint 0 3\njump 7\nblock\ntrap\nblock\ntrap\nblock\njump 7\nblock\njump 5\nblock\nret 0\n": "func 8 8 1\nblock\nbranch 1 1 2\nblock\nsub 8 0 0\nprint 0 2\njump 3\nblock\njump 3\nblock\nret 0\n",
		// What phis have for these: the first, one between, the last, all but one.
		"func 8 8\nblock\nconst 8 9\njump 2\nblock\nconst 8 1\njump 2\nblock\nphi 8 1 2\nphi 8 0 2\nret 3\n":                                               "func 8 8\nblock\nconst 8 9\njump 1\nblock\nphi 8 1\nphi 8 0\nret 2\n",
		"func 8 8 8 8 1\nblock\nbranch 3 1 3\nblock\njump 4\nblock\njump 4\nblock\njump 4\nblock\nphi 8 0 1 2\nret 4\n":                                    "func 8 8 8 8 1\nblock\nbranch 3 1 2\nblock\njump 3\nblock\njump 3\nblock\nphi 8 0 2\nret 4\n",
		"func 8 8 8 8 1\nblock\nbranch 3 2 3\nblock\njump 4\nblock\njump 4\nblock\njump 4\nblock\nphi 8 0 1 2\nret 4\n":                                    "func 8 8 8 8 1\nblock\nbranch 3 1 2\nblock\njump 3\nblock\njump 3\nblock\nphi 8 1 2\nret 4\n",
		"func 8 8 8 8 1\nblock\nbranch 3 1 2\nblock\njump 3\nblock\njump 3\nblock\nphi 8 0 1 2\nret 4\nblock\nbranch 3 3 5\nblock\ntrap\n":                 "func 8 8 8 8 1\nblock\nbranch 3 1 2\nblock\njump 3\nblock\njump 3\nblock\nphi 8 0 1\nret 4\n",
		"func 8 8 8 8 1\nblock\njump 3\nblock\nbranch 3 3 2\nblock\nbranch 3 1 3\nblock\nphi 8 0 1 2\nret 4\nblock\ntrap\nblock\nphi 8\nprint 0 5\ntrap\n": "func 8 8 8 8 1\nblock\njump 1\nblock\nphi 8 0\nret 4\n",
		// Phis themselves that are not reached, in a ring, and a loop that is.
		"func 8 8\nblock\njump 4\nblock\nphi 8 2 0\njump 2\nblock\nphi 8 1\njump 1\nblock\njump 1\nblock\nphi 8 0 3\njump 4\n": "func 8 8\nblock\njump 1\nblock\nphi 8 0 1\njump 1\n",
		// Ids of what stands ahead and behind, in each thing that names one.
		"func 8 8 32 1\nblock\nconst 8 4\njump 2\nblock\nphi 1\nphi 8\nload 8 1\njump 2\nblock\nphi 8 0 5\ncopy 8 7\nstore 0 1 8\ncall 8 0 8 1 2\nselect 8 2 7 10\nprint 0 11\nbranch 2 3 4\nblock\nphi 8 11\nret 13\nblock\nret 10\n": "func 8 8 32 1\nblock\nconst 8 4\njump 1\nblock\nphi 8 0\ncopy 8 4\nstore 0 1 5\ncall 8 0 5 1 2\nselect 8 2 4 7\nprint 0 8\nbranch 2 2 3\nblock\nphi 8 8\nret 10\nblock\nret 7\n",
		// Function by function.
		"func 8\nblock\ntrap\nblock\ntrap\nfunc 8\nblock\njump 1\nblock\ntrap\nfunc 8\nblock\njump 2\nblock\ntrap\nblock\ntrap\n": "func 8\nblock\ntrap\nfunc 8\nblock\njump 1\nblock\ntrap\nfunc 8\nblock\njump 1\nblock\ntrap\n",
	})
}

// A regrouping tells which old blocks stand, one behind the other, in each new
// one. Phis of all but the first of a group are copies.
type regrouping [][]int64

// place is where an old block is in the new ones; -1 when it is nowhere.
func (r regrouping) place(b int64) int64 {
	return int64(slices.IndexFunc(r, func(group []int64) bool { return has(group, b) }))
}

// idsOfBlocks are the ids that each block makes.
func idsOfBlocks(f impl.Func) [][]int64 {
	l := make([][]int64, len(f.Blocks))
	for id := int64(len(f.Params)); id < impl.CountOf(f); id++ {
		b, _ := impl.PlaceOf(f, id)
		l[b] = append(l[b], id)
	}
	return l
}

// turned are those ids, of which each has a place of its own, in the order of
// these; one without a place goes.
func turned(ids []int64, places []int64) []int64 {
	var l []int64
	for at := range int64(4 * impl.MaxBlocks) {
		if k := slices.Index(places, at); k >= 0 {
			l = append(l, ids[k])
		}
	}
	return l
}

// of numbers by counting: an id is called by how many stand ahead of it.
func (r regrouping) of(f impl.Func) impl.Func {
	old := copyFunc(f)
	preds := refDrawing(f).preds
	g := impl.Func{Params: copyList(f.Params), Ret: f.Ret}
	var order []int64
	for id := range f.Params {
		order = append(order, int64(id))
	}
	for _, group := range r {
		var block impl.Block
		for k, b := range group {
			for _, p := range old.Blocks[b].Phis {
				var places []int64
				for _, from := range preds[b] {
					places = append(places, r.place(from))
				}
				if k > 0 {
					block.Insts = append(block.Insts, impl.Inst{Op: impl.OpCopy, W: p.W, A: p.Ins[0]})
				} else {
					block.Phis = append(block.Phis, impl.Phi{W: p.W, Ins: turned(p.Ins, places)})
				}
			}
			block.Insts = append(block.Insts, old.Blocks[b].Insts...)
			block.Term = old.Blocks[b].Term
			order = append(order, idsOfBlocks(f)[b]...)
		}
		if block.Term.Kind == impl.TmJump || block.Term.Kind == impl.TmBranch {
			block.Term.X = r.place(block.Term.X)
		}
		if block.Term.Kind == impl.TmBranch {
			block.Term.Y = r.place(block.Term.Y)
		}
		g.Blocks = append(g.Blocks, block)
	}
	eachNamed(&g, func(id *int64) { *id = int64(slices.Index(order, *id)) })
	return g
}

func refPruned(f impl.Func) impl.Func {
	var r regrouping
	for _, b := range refDrawing(f).reached {
		r = append(r, []int64{b})
	}
	return r.of(f)
}

// joinable are the first two blocks, one behind the other, that are one.
func joinable(f impl.Func) (int64, int64, bool) {
	d := refDrawing(f)
	for b, block := range f.Blocks {
		if x := block.Term.X; block.Term.Kind == impl.TmJump && x != int64(b) && len(d.preds[x]) == 1 {
			return int64(b), x, true
		}
	}
	return 0, 0, false
}

// refJoined joins two, and numbers all anew, one time after the other.
func refJoined(f impl.Func) impl.Func {
	for {
		first, second, ok := joinable(f)
		if !ok {
			return copyFunc(f)
		}
		var r regrouping
		for b := range f.Blocks {
			switch int64(b) {
			case first:
				r = append(r, []int64{first, second})
			case second:
			default:
				r = append(r, []int64{int64(b)})
			}
		}
		f = r.of(f)
	}
}

func TestPrunedAgainstOtherWays(t *testing.T) { holdsAgainst(t, impl.Pruned, refPruned, 200) }

func TestJoinedAgainstOtherWays(t *testing.T) { holdsAgainst(t, impl.Joined, refJoined, 200) }

func TestJoinedByHand(t *testing.T) {
	passesTo(t, impl.Joined, map[string]string{
		"func 8\nblock\ntrap\n": "func 8\nblock\ntrap\n",
		// Two in a row, many in a row, with the blocks in and out of order.
		"func 8 8\nblock\nconst 8 1\njump 1\nblock\nadd 8 0 1\nret 2\n":                                                                                                           "func 8 8\nblock\nconst 8 1\nadd 8 0 1\nret 2\n",
		"func 8 8\nblock\nconst 8 1\njump 1\nblock\njump 2\nblock\nadd 8 0 1\njump 3\nblock\nsub 8 2 1\njump 4\nblock\nret 3\n":                                                   "func 8 8\nblock\nconst 8 1\nadd 8 0 1\nsub 8 2 1\nret 3\n",
		"func 8 8\nblock\nconst 8 1\njump 4\nblock\nmul 8 3 4\nret 2\nblock\nsub 8 4 0\njump 1\nblock\nadd 8 1 0\njump 2\nblock\njump 3\n":                                        "func 8 8\nblock\nconst 8 1\nadd 8 1 0\nsub 8 2 0\nmul 8 3 2\nret 4\n",
		"func 8\nblock\njump 9\nblock\ntrap\nblock\njump 1\nblock\njump 2\nblock\njump 3\nblock\njump 4\nblock\njump 5\nblock\njump 6\nblock\njump 7\nblock\nconst 8 7\njump 8\n": "func 8\nblock\nconst 8 7\ntrap\n",
		// Phis of the second are copies, in its place, ahead of its instructions.
		"func 8 8 1\nblock\nconst 8 3\njump 1\nblock\nphi 8 2\nphi 1 1\nphi 8 0\nadd 8 3 5\nprint 0 4\nret 6\n": "func 8 8 1\nblock\nconst 8 3\ncopy 8 2\ncopy 1 1\ncopy 8 0\nadd 8 3 5\nprint 0 4\nret 6\n",
		// Phis of the first stay phis.
		"func 8 8 1\nblock\nbranch 1 1 2\nblock\njump 3\nblock\njump 3\nblock\nphi 8 0 0\njump 4\nblock\nphi 8 2\nret 3\n": "func 8 8 1\nblock\nbranch 1 1 2\nblock\njump 3\nblock\njump 3\nblock\nphi 8 0 0\ncopy 8 2\nret 3\n",
		// A block that branches leads to none that could be its own.
		"func 8 8 1\nblock\nbranch 1 1 2\nblock\nphi 8 0\nret 2\nblock\ntrap\n": "func 8 8 1\nblock\nbranch 1 1 2\nblock\nphi 8 0\nret 2\nblock\ntrap\n",
		// Nor does one that jumps to where another one leads, reached or not.
		"func 8 8\nblock\njump 2\nblock\njump 2\nblock\nphi 8 0 0\nret 1\n":                        "func 8 8\nblock\njump 2\nblock\njump 2\nblock\nphi 8 0 0\nret 1\n",
		"func 8 8 1\nblock\nbranch 1 1 2\nblock\njump 2\nblock\nphi 8 0 0\nret 2\nblock\njump 3\n": "func 8 8 1\nblock\nbranch 1 1 2\nblock\njump 2\nblock\nphi 8 0 0\nret 2\nblock\njump 3\n",
		// Function by function.
		"func 8\nblock\njump 1\nblock\ntrap\nfunc 8\nblock\ntrap\nblock\ntrap\nfunc 8\nblock\nconst 8 1\njump 1\nblock\nret 0\n": "func 8\nblock\ntrap\nfunc 8\nblock\ntrap\nblock\ntrap\nfunc 8\nblock\nconst 8 1\nret 0\n",
	})
}

// Where a block that is joined leads, phis stand in another order than they
// did.
func TestJoinedTurnsPhis(t *testing.T) {
	passesTo(t, impl.Joined, map[string]string{
		// The second stands behind another one that leads there.
		"func 8 8 1\nblock\nbranch 1 1 3\nblock\njump 4\nblock\nphi 8 3 4\nret 2\nblock\nconst 8 2\njump 2\nblock\nconst 8 5\njump 2\n": "func 8 8 1\nblock\nbranch 1 1 3\nblock\nconst 8 5\njump 2\nblock\nphi 8 2 4\nret 3\nblock\nconst 8 2\njump 2\n",
		// It stands ahead of it, and the first behind.
		"func 8 8 1\nblock\nbranch 1 4 2\nblock\nconst 8 5\njump 3\nblock\nconst 8 2\njump 3\nblock\nphi 8 2 3\nret 4\nblock\nprint 0 0\njump 1\n": "func 8 8 1\nblock\nbranch 1 3 1\nblock\nconst 8 2\njump 2\nblock\nphi 8 2 5\nret 3\nblock\nprint 0 0\nconst 8 5\njump 2\n",
		// Both stand on one side of it: nothing is turned.
		"func 8 8 1\nblock\nbranch 1 1 3\nblock\njump 2\nblock\nconst 8 5\njump 4\nblock\nconst 8 2\njump 4\nblock\nphi 8 2 3\nret 4\n": "func 8 8 1\nblock\nbranch 1 1 2\nblock\nconst 8 5\njump 3\nblock\nconst 8 2\njump 3\nblock\nphi 8 2 3\nret 4\n",
		// Both ways of a branch.
		"func 8 8 1\nblock\nbranch 1 1 2\nblock\njump 5\nblock\nbranch 1 3 4\nblock\nphi 8 0 4\nret 2\nblock\nphi 8 0 4\nret 3\nblock\nconst 8 7\nbranch 1 4 3\n": "func 8 8 1\nblock\nbranch 1 1 2\nblock\nconst 8 7\nbranch 1 4 3\nblock\nbranch 1 3 4\nblock\nphi 8 2 0\nret 3\nblock\nphi 8 2 0\nret 4\n",
		// The second leads back to the first.
		"func 8 8 1\nblock\njump 2\nblock\nadd 8 3 0\nbranch 1 2 3\nblock\nphi 8 0 2\njump 1\nblock\nret 3\n":               "func 8 8 1\nblock\njump 1\nblock\nphi 8 0 3\nadd 8 2 0\nbranch 1 1 2\nblock\nret 2\n",
		"func 8 8 1\nblock\njump 1\nblock\nphi 8 0 3 4\njump 3\nblock\nconst 8 2\njump 1\nblock\nconst 8 3\nbranch 1 1 2\n": "func 8 8 1\nblock\njump 1\nblock\nphi 8 0 3 4\nconst 8 3\nbranch 1 1 2\nblock\nconst 8 2\njump 1\n",
	})
}

// A block that jumps to itself is not another one. Rings to which nothing
// leads come to that in the end.
func TestJoinedInRings(t *testing.T) {
	passesTo(t, impl.Joined, map[string]string{
		"func 8 8\nblock\njump 1\nblock\nphi 8 0 1\njump 1\n":                                                 "func 8 8\nblock\njump 1\nblock\nphi 8 0 1\njump 1\n",
		"func 8\nblock\ntrap\nblock\njump 1\n":                                                                "func 8\nblock\ntrap\nblock\njump 1\n",
		"func 8 8\nblock\nret 0\nblock\nphi 8 0\njump 1\n":                                                    "func 8 8\nblock\nret 0\nblock\nphi 8 0\njump 1\n",
		"func 8\nblock\ntrap\nblock\nconst 8 1\njump 2\nblock\nconst 8 2\njump 1\n":                           "func 8\nblock\ntrap\nblock\nconst 8 1\nconst 8 2\njump 1\n",
		"func 8\nblock\ntrap\nblock\nconst 8 1\njump 3\nblock\nconst 8 2\njump 1\nblock\nconst 8 3\njump 2\n": "func 8\nblock\ntrap\nblock\nconst 8 1\nconst 8 3\nconst 8 2\njump 1\n",
		"func 8\nblock\ntrap\nblock\nphi 8 1\njump 2\nblock\nphi 8 0\njump 1\n":                               "func 8\nblock\ntrap\nblock\nphi 8 1\ncopy 8 0\njump 1\n",
		// Where no run comes phis may name themselves and each other.
		"func 8\nblock\ntrap\nblock\njump 2\nblock\nphi 8 0\nphi 8 2\nphi 8 0\nret 1\n": "func 8\nblock\ntrap\nblock\ncopy 8 0\ncopy 8 2\ncopy 8 0\nret 1\n",
	})
}

// runsAsBefore asks that what comes of a pass is right and runs as it did.
func runsAsBefore(t *testing.T, p pass, steps bool) {
	t.Helper()
	d := &dice{seed: 17}
	ran := 0
	for _, m := range graphModules(300) {
		out, ok := p(m)
		if !ok || impl.Checked(out) != impl.VfOk {
			t.Fatal(impl.ModuleText(m), ok, impl.Checked(out))
		}
		ran += runsAlike(t, m, out, d, steps)
	}
	if ran < 1500 {
		t.Error(ran)
	}
}

// Neither a jump in the place of a branch nor a block that is gone is to be
// seen in the steps.
func TestWhatIsChosenRunsAsItDid(t *testing.T) { runsAsBefore(t, impl.Chosen, true) }

func TestWhatIsPrunedRunsAsItDid(t *testing.T) { runsAsBefore(t, impl.Pruned, true) }

func TestWhatIsJoinedRunsAsItDid(t *testing.T) { runsAsBefore(t, impl.Joined, false) }

// staysBy asks that a pass changes nothing of what it made.
func staysBy(t *testing.T, p pass, m impl.Module) {
	t.Helper()
	if again, ok := p(m); !ok || !sameModule(again, m) {
		t.Fatal(impl.ModuleText(m), impl.ModuleText(again))
	}
}

func TestNoBranchIsLeftThatIsKnown(t *testing.T) {
	left := 0
	for _, m := range graphModules(200) {
		out, _ := impl.Chosen(m)
		for k, f := range out.Funcs {
			for b, block := range f.Blocks {
				_, known := impl.ConstOf(f, block.Term.A)
				if block.Term.Kind == impl.TmBranch && known {
					t.Fatal(impl.ModuleText(m), impl.ModuleText(out), b)
				}
				if block.Term.Kind == impl.TmBranch {
					left++
				}
			}
			if impl.CountOf(f) != impl.CountOf(m.Funcs[k]) || len(f.Blocks) != len(m.Funcs[k].Blocks) {
				t.Fatal(impl.ModuleText(m), impl.ModuleText(out))
			}
		}
		staysBy(t, impl.Chosen, out)
	}
	if left < 100 {
		t.Error(left)
	}
}

func TestAllBlocksThatAreLeftAreReached(t *testing.T) {
	for _, m := range graphModules(200) {
		out, _ := impl.Pruned(m)
		for k, f := range out.Funcs {
			if len(impl.Reached(f)) != len(f.Blocks) || len(f.Blocks) != len(impl.Reached(m.Funcs[k])) {
				t.Fatal(impl.ModuleText(m), impl.ModuleText(out))
			}
		}
		staysBy(t, impl.Pruned, out)
	}
}

func TestNoTwoAreLeftThatCouldBeOne(t *testing.T) {
	for _, m := range graphModules(200) {
		out, _ := impl.Joined(m)
		for k, f := range out.Funcs {
			if first, second, ok := joinable(f); ok {
				t.Fatal(impl.ModuleText(m), impl.ModuleText(out), first, second)
			}
			if impl.CountOf(f) != impl.CountOf(m.Funcs[k]) {
				t.Fatal(impl.ModuleText(m), impl.ModuleText(out))
			}
		}
		staysBy(t, impl.Joined, out)
	}
}

// One behind the other, all that is promised of the three holds at once.
func TestChosenPrunedAndJoined(t *testing.T) {
	d := &dice{seed: 22}
	ran, less := 0, 0
	for _, m := range graphModules(200) {
		out := m
		for _, p := range []pass{impl.Chosen, impl.Pruned, impl.Joined} {
			next, ok := p(out)
			if !ok || impl.Checked(next) != impl.VfOk {
				t.Fatal(impl.ModuleText(out), ok)
			}
			out = next
		}
		staysBy(t, impl.Chosen, out)
		staysBy(t, impl.Pruned, out)
		ran += runsAlike(t, m, out, d, false)
		for k, f := range out.Funcs {
			if len(f.Blocks) < len(m.Funcs[k].Blocks) {
				less++
			}
		}
	}
	if ran < 1000 || less < 200 {
		t.Error(ran, less)
	}
}

// At the limits: as many blocks as there may be, each with a phi for all
// others, and as many ids.
func TestBlocksAtLimits(t *testing.T) {
	row := "func 8 8\nblock\njump 1\n"
	joined := "func 8 8\nblock\n"
	for b := range int64(impl.MaxBlocks - 2) {
		row += "block\nphi 8 0\njump" + refNumbers([]int64{b + 2}) + "\n"
		joined += "copy 8 0\n"
	}
	passesTo(t, impl.Joined, map[string]string{row + "block\nret 0\n": joined + "ret 0\n"})
	full := "func 8 1\nblock\nconst 1 1\nbranch 1 9 8\n"
	chosen := "func 8 1\nblock\nconst 1 1\njump 9\n"
	for range impl.MaxBlocks - 3 {
		full += "block\nbranch 0 8 9\n"
		chosen += "block\nbranch 0 8 9\n"
	}
	ends := "block\nphi 1 1 0 0 0 0 0 0 0\nconst 8 1\nret 3\nblock\nphi 1 1 0 0 0 0 0 0 0\ntrap\n"
	left := "block\nphi 1 0 0 0 0 0 0 0\nconst 8 1\nret 3\nblock\nphi 1 1 0 0 0 0 0 0 0\ntrap\n"
	passesTo(t, impl.Chosen, map[string]string{full + ends: chosen + left})
	passesTo(t, impl.Pruned, map[string]string{chosen + left: "func 8 1\nblock\nconst 1 1\njump 1\nblock\nphi 1 1\ntrap\n"})
	most := counted(impl.MaxValues)
	for _, p := range []pass{impl.Chosen, impl.Pruned, impl.Joined} {
		staysBy(t, p, alone(most))
		staysBy(t, p, repeated(most, impl.MaxFuncs))
	}
}

func TestBlocksRefuse(t *testing.T) {
	refusesWrong(t, impl.Chosen)
	refusesWrong(t, impl.Pruned)
	refusesWrong(t, impl.Joined)
}

func TestBlocksWriteNothing(t *testing.T) {
	writesNothing(t, impl.Chosen)
	writesNothing(t, impl.Pruned)
	writesNothing(t, impl.Joined)
}
