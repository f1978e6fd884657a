package tests

import (
	"math"
	"reflect"
	"slices"
	"strings"
	"testing"

	"loop.example/g00457/impl"
)

// A living is all that chapter 15 tells of a function.
type living struct {
	in, out, after [][]int64
	most           int64
}

func livingOf(f impl.Func) living {
	l := living{most: impl.Pressure(f)}
	for b := range f.Blocks {
		l.in = append(l.in, impl.LiveIn(f, int64(b)))
		l.out = append(l.out, impl.LiveOut(f, int64(b)))
	}
	for id := range impl.CountOf(f) {
		l.after = append(l.after, impl.LiveAfter(f, id))
	}
	return l
}

func sameLiving(a, b living) bool {
	return sameLists(a.in, b.in) && sameLists(a.out, b.out) && sameLists(a.after, b.after) && a.most == b.most
}

// listsText has a - for a list without anything.
func listsText(l [][]int64) string {
	var texts []string
	for _, ids := range l {
		text := "-"
		if len(ids) > 0 {
			text = strings.TrimPrefix(refNumbers(ids), " ")
		}
		texts = append(texts, text)
	}
	return strings.Join(texts, ", ")
}

// text is what is alive at the beginnings of blocks, at their ends, and behind
// ids.
func (l living) text() string {
	return listsText(l.in) + " | " + listsText(l.out) + " | " + listsText(l.after)
}

// lives holds what is alive in functions, in their form but not right for all
// that, against what should be.
func lives(t *testing.T, texts map[string]string) {
	t.Helper()
	for text, want := range texts {
		if got := livingOf(readFunc(t, text)).text(); got != want {
			t.Errorf("%q: %q, not %q", text, got, want)
		}
	}
}

func TestLivingInAStraightLine(t *testing.T) {
	lives(t, map[string]string{
		"func 8\nblock\ntrap\n":                                    "- | - | ",
		"func 8 8 8\nblock\ntrap\n":                                "- | - | -, -",
		"func 8 8 8\nblock\nret 1\n":                               "1 | - | 1, 1",
		"func 8\nblock\nconst 8 1\ntrap\n":                         "- | - | -",
		"func 8\nblock\nconst 8 1\nret 0\n":                        "- | - | 0",
		"func 8 8\nblock\nadd 8 0 0\nret 1\n":                      "0 | - | 0, 1",
		"func 8 8\nblock\nadd 8 0 0\nret 0\n":                      "0 | - | 0, 0",
		"func 8 8 8\nblock\nprint 0 1\nret 0\n":                    "0 1 | - | 0 1, 0 1, 0",
		"func 8 8\nblock\ntrap\nblock\nret 0\n":                    "-, 0 | -, - | -",
		"func 8 8 8\nblock\ncopy 8 1\ncopy 8 2\ncopy 8 3\nret 4\n": "1 | - | 1, 1, 2, 3, 4",
		// What is named last, and what is named again.
		"func 8 8 8\nblock\nconst 8 1\nadd 8 0 2\nmul 8 3 2\nret 4\n":        "0 | - | 0, 0, 0 2, 2 3, 4",
		"func 8 8 8\nblock\nconst 8 1\nadd 8 0 2\nmul 8 3 2\nret 0\n":        "0 | - | 0, 0, 0 2, 0 2 3, 0",
		"func 8 32 8\nblock\nstore 0 0 1\nload 8 0\nret 3\n":                 "0 1 | - | 0 1, 0 1, 0, 3",
		"func 8 8 8 1\nblock\nselect 8 2 1 0\nret 3\n":                       "0 1 2 | - | 0 1 2, 0 1 2, 0 1 2, 3",
		"func 8 8 8 8 8\nblock\ncall 8 0 3 1\nconst 8 1\nret 4\n":            "1 3 | - | 1 3, 1 3, 1 3, 1 3, 4, 4",
		"func 8 8\nblock\nconst 1 1\nzext 8 1\nsext 16 2\nprint 0 3\ntrap\n": "- | - | -, 1, 2, 3, -",
		// Several blocks, in and out of order, and one with nothing but its end.
		"func 8 8 8\nblock\nadd 8 0 0\njump 1\nblock\nsub 8 2 1\njump 2\nblock\nret 3\n":          "0 1, 1 2, 3 | 1 2, 3, - | 0 1, 0 1, 1 2, 3",
		"func 8 8 8\nblock\nadd 8 0 0\njump 2\nblock\nret 3\nblock\nsub 8 2 1\njump 1\n":          "0 1, 3, 1 2 | 1 2, -, 3 | 0 1, 0 1, 1 2, 3",
		"func 8 8\nblock\njump 1\nblock\njump 2\nblock\njump 3\nblock\nret 0\n":                   "0, 0, 0, 0 | 0, 0, 0, - | 0",
		"func 8 8\nblock\njump 3\nblock\nret 0\nblock\njump 1\nblock\njump 2\n":                   "0, 0, 0, 0 | 0, -, 0, 0 | 0",
		"func 8 8\nblock\nconst 8 1\nconst 8 2\njump 1\nblock\nadd 8 0 1\njump 2\nblock\nret 2\n": "0, 0 1 2, 2 | 0 1 2, 2, - | 0, 0 1, 0 1 2, 2",
	})
}

func TestLivingAtForks(t *testing.T) {
	lives(t, map[string]string{
		"func 8 8 8 1\nblock\nbranch 2 1 2\nblock\nret 0\nblock\nret 1\n": "0 1 2, 0, 1 | 0 1, -, - | 0 1 2, 0 1 2, 0 1 2",
		"func 8 8 8 1\nblock\nbranch 2 2 1\nblock\nret 0\nblock\ntrap\n":  "0 2, 0, - | 0, -, - | 0 2, 0 2, 0 2",
		"func 8 1\nblock\nbranch 0 1 2\nblock\ntrap\nblock\ntrap\n":       "0, -, - | -, -, - | 0",
		"func 1 1\nblock\nbranch 0 1 2\nblock\nret 0\nblock\ntrap\n":      "0, 0, - | 0, -, - | 0",
		// What is alive only by a phi behind: at the one end, not at the other, and not at the beginning.
		"func 8 8 8 1\nblock\nbranch 2 1 2\nblock\njump 3\nblock\njump 3\nblock\nphi 8 0 1\nret 3\n": "0 1 2, 0, 1, - | 0 1, 0, 1, - | 0 1 2, 0 1 2, 0 1 2, 3",
		"func 8 8 8 1\nblock\nbranch 2 1 2\nblock\njump 3\nblock\njump 3\nblock\nphi 8 0 1\ntrap\n":  "0 1 2, 0, 1, - | 0 1, 0, 1, - | 0 1 2, 0 1 2, 0 1 2, -",
		"func 8 8 1\nblock\nconst 8 7\nbranch 1 1 2\nblock\njump 2\nblock\nphi 8 2 0\nret 3\n":       "0 1, 0, - | 0 2, 0, - | 0 1, 0 1, 0 1 2, 3",
		"func 8 8 8 1\nblock\nbranch 2 3 2\nblock\nphi 8 0 1\nret 3\nblock\njump 1\nblock\njump 1\n": "0 1 2, -, 0, 1 | 0 1, -, 0, 1 | 0 1 2, 0 1 2, 0 1 2, 3",
		// Named by a phi and behind it, too.
		"func 8 8 1\nblock\nbranch 1 1 2\nblock\njump 2\nblock\nphi 8 0 0\nadd 8 2 0\nret 3\n": "0 1, 0, 0 | 0, 0, - | 0 1, 0 1, 0 2, 3",
		// Two phis that nobody names, and one that is.
		"func 8 8 8\nblock\njump 1\nblock\nphi 8 0\nphi 8 1\nphi 8 0\nret 4\n": "0 1, - | 0 1, - | 0 1, 0 1, 4, 4, 4",
		"func 8 8 8\nblock\njump 1\nblock\nphi 8 0\nphi 8 1\nphi 8 0\ntrap\n":  "0 1, - | 0 1, - | 0 1, 0 1, -, -, -",
	})
}

func TestLivingInLoops(t *testing.T) {
	lives(t, map[string]string{
		sumText(): "0, 1 2, 1 2 3 4, 4 | 0 1 2, 1 2 3 4, 1 2 6 7, - | 0, 0 1, 0 1 2, 1 2 3 4, 1 2 3 4, 1 2 3 4 5, 1 2 3 4 6, 1 2 6 7",
		// A block that leads to itself, with and without an end, with and without a phi.
		"func 8 8 1\nblock\njump 1\nblock\nphi 8 0 3\nadd 8 2 0\nbranch 1 1 2\nblock\nret 3\n": "0 1, 0 1, 3 | 0 1, 0 1 3, - | 0 1, 0 1, 0 1 2, 0 1 3",
		"func 8 8\nblock\njump 1\nblock\nprint 0 0\njump 1\n":                                  "0, 0 | 0, 0 | 0, 0",
		"func 8 8\nblock\njump 1\nblock\nconst 8 1\nprint 0 1\njump 1\n":                       "-, - | -, - | -, 1, -",
		"func 8 8\nblock\njump 1\nblock\njump 1\n":                                             "-, - | -, - | -",
		"func 8 8\nblock\njump 1\nblock\nphi 8 0 1\njump 1\n":                                  "0, - | 0, 1 | 0, 1",
		"func 8 8\nblock\njump 1\nblock\nphi 8 0 0\njump 1\n":                                  "0, 0 | 0, 0 | 0, 0",
		// What is named ahead in a loop is alive all around it.
		"func 8 8 8 1\nblock\njump 1\nblock\nprint 0 0\njump 2\nblock\njump 3\nblock\nbranch 2 1 4\nblock\nret 1\n": "0 1 2, 0 1 2, 0 1 2, 0 1 2, 1 | 0 1 2, 0 1 2, 0 1 2, 0 1 2, - | 0 1 2, 0 1 2, 0 1 2, 0 1 2",
		"func 8 8 1\nblock\njump 4\nblock\nret 0\nblock\nbranch 1 3 1\nblock\njump 4\nblock\njump 2\n":              "0 1, 0, 0 1, 0 1, 0 1 | 0 1, -, 0 1, 0 1, 0 1 | 0 1, 0 1",
		// Phis that name each other.
		"func 8 8 8 1\nblock\njump 1\nblock\nphi 8 0 4\nphi 8 1 3\nbranch 2 1 2\nblock\nret 3\n": "0 1 2, 2, 3 | 0 1 2, 2 3 4, - | 0 1 2, 0 1 2, 0 1 2, 2 3 4, 2 3 4",
		"func 8 8 8\nblock\njump 1\nblock\nphi 8 0 3\nphi 8 1 2\njump 1\n":                       "0 1, - | 0 1, 2 3 | 0 1, 0 1, 2 3, 2 3",
		"func 8 8 8\nblock\njump 1\nblock\nphi 8 0 2\nphi 8 1 2\njump 1\n":                       "0 1, - | 0 1, 2 | 0 1, 0 1, 2, 2",
		"func 8 8\nblock\njump 1\nblock\nphi 8 0 2\njump 2\nblock\nphi 8 1\njump 1\n":            "0, -, - | 0, 1, 2 | 0, 1, 2",
		// One that goes round the other loop, too.
		"func 8 8 1\nblock\njump 1\nblock\nphi 8 0 2\njump 2\nblock\nprint 0 2\nbranch 1 2 1\n": "0 1, 1, 1 2 | 0 1, 1 2, 1 2 | 0 1, 0 1, 1 2, 1 2",
	})
}

// Nobody comes to these blocks, but what they name is alive there, and by them
// where they lead.
func TestLivingWhereNobodyComes(t *testing.T) {
	lives(t, map[string]string{
		"func 8 8 8\nblock\nret 0\nblock\nadd 8 0 1\njump 2\nblock\nret 2\n":                    "0, 0 1, 2 | -, 2, - | 0, 0, 2",
		"func 8 8 8\nblock\njump 2\nblock\nconst 8 3\njump 2\nblock\nphi 8 0 2\nret 3\n":        "0, -, - | 0, 2, - | 0, 0, 2, 3",
		"func 8\nblock\ntrap\nblock\nprint 0 1\nconst 8 1\njump 1\n":                            "-, 1 | -, 1 | -, 1",
		"func 8\nblock\ntrap\nblock\njump 2\nblock\nphi 8 0\nphi 8 2\nphi 8 0\nret 1\n":         "-, 0 2, - | -, 0 2, - | 1, 1, 1",
		"func 8\nblock\ntrap\nblock\nphi 8 2\njump 2\nblock\nphi 8 0\nadd 8 1 2\njump 1\n":      "-, 2, 2 | -, 0 2, 2 | 0 2, 1 2, 2",
		"func 8\nblock\ntrap\nblock\nphi 8\nret 0\n":                                            "-, - | -, - | 0",
		"func 8 8\nblock\ncopy 8 0\njump 2\nblock\ncopy 8 1\njump 2\nblock\nadd 8 1 2\nret 3\n": "0 2, 1, 1 2 | 1 2, 1 2, - | 0 2, 1 2, 1 2, 3",
	})
}

// In its form and with phis that fit is enough.
func TestLivingOfWhatIsNotRight(t *testing.T) {
	lives(t, map[string]string{
		// Named ahead of where it is made, and by itself.
		"func 8\nblock\nadd 8 0 0\nret 0\n":                            "0 | - | 0",
		"func 8\nblock\nadd 8 0 0\ntrap\n":                             "0 | - | -",
		"func 8\nblock\nadd 8 1 1\nconst 8 4\nret 0\n":                 "1 | - | 0, 0",
		"func 8\nblock\nadd 8 1 1\nconst 8 4\nret 1\n":                 "1 | - | -, 1",
		"func 8\nblock\nret 0\nblock\nconst 8 1\ntrap\n":               "0, - | -, - | -",
		"func 8\nblock\njump 1\nblock\nprint 0 1\nadd 8 0 0\njump 1\n": "1, 1 | 1, 1 | 0, 1",
		"func 8\nblock\njump 1\nblock\nphi 8 1\nphi 8 0\nret 0\n":      "0 1, - | 0 1, - | 0, 0",
		// The first block in a loop, with phis, and alone with some.
		"func 8 8\nblock\nphi 8 1\nprint 0 1\njump 0\n":               "- | 1 | -, 1, 1",
		"func 8 8\nblock\nphi 8 2\nadd 8 1 0\njump 0\n":               "0 | 0 2 | 0, 0 1, 0 2",
		"func 8 8 1\nblock\nprint 0 0\nbranch 1 0 1\nblock\njump 0\n": "0 1, 0 1 | 0 1, 0 1 | 0 1, 0 1, 0 1",
		"func 8\nblock\nphi 8\nret 0\n":                               "- | - | 0",
		// What gives nothing is alive when it is named; widths do not count.
		"func 8 8\nblock\nprint 0 0\nprint 0 1\njump 1\nblock\nret 1\n":                     "0, 1 | 1, - | 0, 1, 1",
		"func 8 8 16\nblock\nadd 8 0 1\nbranch 0 1 2\nblock\nret 1\nblock\nphi 1 2\ntrap\n": "0 1, 1, - | 1 2, -, - | 0 1, 0 1, 0 1 2, -",
		"func 8 8\nblock\ncall 16 0\nret 0\n":                                               "0 | - | 0, 0",
	})
	codes := map[int64]int{}
	for _, x := range faults() {
		m := calledModule()
		x.spoil(&m.Funcs[0])
		if x.code != impl.VfShape && x.code != impl.VfPhi {
			codes[x.code]++
			if got := livingOf(m.Funcs[0]); got.most == 0 || !sameLiving(got, refLiving(m.Funcs[0])) {
				t.Error(x.name, got)
			}
		}
	}
	if len(codes) != 4 {
		t.Error(codes)
	}
}

func isNoLiving(l living) bool {
	all := slices.Concat(l.in, l.out, l.after)
	return l.most == 0 && !slices.ContainsFunc(all, func(ids []int64) bool { return len(ids) > 0 })
}

func TestNoLiving(t *testing.T) {
	for name, f := range formless() {
		if l := livingOf(f); !isNoLiving(l) {
			t.Error(name, l)
		}
		for _, n := range []int64{math.MinInt64, -1, 0, 1, 10, 60, math.MaxInt64} {
			if len(impl.LiveIn(f, n)) > 0 || len(impl.LiveOut(f, n)) > 0 || len(impl.LiveAfter(f, n)) > 0 {
				t.Error(name, n)
			}
		}
	}
	// A phi that does not fit, anywhere, leaves nothing of all blocks.
	for _, x := range faults() {
		m := calledModule()
		x.spoil(&m.Funcs[0])
		if x.code == impl.VfPhi && !isNoLiving(livingOf(m.Funcs[0])) {
			t.Error(x.name, livingOf(m.Funcs[0]))
		}
	}
	for _, text := range []string{
		"func 8 8\nblock\njump 1\nblock\nphi 8\nret 0\n",
		"func 8 8\nblock\njump 1\nblock\nphi 8 0 0\nret 0\n",
		"func 8 8\nblock\nret 0\nblock\nphi 8 0\nret 0\n",
		"func 8 8\nblock\nphi 8 0\nret 0\n",
		"func 8 8\nblock\nphi 8\njump 0\n",
		"func 8 8\nblock\nphi 8 0 0\njump 0\n",
		"func 8 8\nblock\njump 1\nblock\nphi 8 0\nphi 8 0 0\nret 0\n",
		"func 8 8\nblock\njump 1\nblock\nphi 8 0 0\nphi 8 0\nret 0\n",
		"func 8 8 1\nblock\nbranch 1 1 2\nblock\njump 2\nblock\nphi 8 0\nret 0\n",
		"func 8 8 1\nblock\nbranch 1 1 2\nblock\njump 2\nblock\nphi 8 0 0 0\nret 0\n",
	} {
		if l := livingOf(readFunc(t, text)); !isNoLiving(l) {
			t.Errorf("%q %v", text, l)
		}
	}
}

func TestLivingWithoutSuchABlockOrId(t *testing.T) {
	f := readFunc(t, sumText())
	for _, b := range []int64{math.MinInt64, -2, -1, 4, 5, 10, 1 << 32, math.MaxInt64} {
		if len(impl.LiveIn(f, b)) > 0 || len(impl.LiveOut(f, b)) > 0 {
			t.Error(b)
		}
	}
	for _, id := range strangeIds(f) {
		if l := impl.LiveAfter(f, id); len(l) > 0 {
			t.Error(id, l)
		}
	}
}

// refPhisFit counts anew who leads to the block of each phi.
func refPhisFit(f impl.Func) bool {
	preds := refDrawing(f).preds
	for b, block := range f.Blocks {
		for _, p := range block.Phis {
			if len(p.Ins) != len(preds[b]) {
				return false
			}
		}
	}
	return true
}

// livingAsked says whether anything is told of a function.
func livingAsked(f impl.Func) bool {
	return impl.ShapeOk(impl.Module{Funcs: []impl.Func{f, counted(0), counted(0)}}) && refPhisFit(f)
}

// A walk looks, for one id, from a place on for somebody who names it, until
// it is made anew.
type walk struct {
	f     impl.Func
	d     drawing
	made  [][]int64
	id    int64
	begun map[int64]bool // the blocks that were gone through from their beginning
}

// ahead starts ahead of the k-th instruction of a block, or ahead of its end.
func (w walk) ahead(b int64, k int) bool {
	block := w.f.Blocks[b]
	for ; k < len(block.Insts); k++ {
		if has(impl.OperandsOf(block.Insts[k]), w.id) {
			return true
		}
		if w.made[b][len(block.Phis)+k] == w.id {
			return false
		}
	}
	e := block.Term
	if e.A == w.id && (e.Kind == impl.TmRet || e.Kind == impl.TmBranch) {
		return true
	}
	return w.atEnd(b)
}

func (w walk) atEnd(b int64) bool {
	for _, to := range w.d.succs[b] {
		at := slices.Index(w.d.preds[to], b)
		for _, p := range w.f.Blocks[to].Phis {
			if p.Ins[at] == w.id {
				return true
			}
		}
		if w.atBegin(to) {
			return true
		}
	}
	return false
}

func (w walk) atBegin(b int64) bool {
	if w.begun[b] || has(w.made[b][:len(w.f.Blocks[b].Phis)], w.id) {
		return false
	}
	w.begun[b] = true
	return w.ahead(b, 0)
}

// refAlive are the ids for which such a walk finds somebody.
func refAlive(f impl.Func, finds func(w walk) bool) []int64 {
	var l []int64
	w := walk{f: f, d: refDrawing(f), made: idsOfBlocks(f)}
	for id := range impl.CountOf(f) {
		w.id, w.begun = id, map[int64]bool{}
		if finds(w) {
			l = append(l, id)
		}
	}
	return l
}

func refLiving(f impl.Func) living {
	var l living
	for range f.Params {
		l.after = append(l.after, refAlive(f, func(w walk) bool { return w.atBegin(0) }))
	}
	for b, block := range f.Blocks {
		l.in = append(l.in, refAlive(f, func(w walk) bool { return w.atBegin(int64(b)) }))
		l.out = append(l.out, refAlive(f, func(w walk) bool { return w.atEnd(int64(b)) }))
		for range block.Phis {
			l.after = append(l.after, refAlive(f, func(w walk) bool { return w.ahead(int64(b), 0) }))
		}
		for k := range block.Insts {
			l.after = append(l.after, refAlive(f, func(w walk) bool { return w.ahead(int64(b), k+1) }))
		}
	}
	for _, ids := range slices.Concat(l.in, l.after) {
		l.most = max(l.most, int64(len(ids)))
	}
	return l
}

// scattered names any ids in some places, and leads some blocks anywhere, to
// the first one too, with phis that fit.
func scattered(f impl.Func, d *dice) impl.Func {
	f = copyFunc(f)
	for b := range f.Blocks {
		if e := &f.Blocks[b].Term; d.below(4) == 0 && e.Kind == impl.TmJump {
			e.X = d.below(int64(len(f.Blocks)))
		}
	}
	for b := range f.Blocks {
		fitPhis(&f, int64(b))
	}
	n := impl.CountOf(f)
	eachNamed(&f, func(id *int64) {
		if d.below(3) == 0 {
			*id = d.below(n)
		}
	})
	return f
}

func TestLivingAgainstOtherWays(t *testing.T) {
	d := &dice{seed: 71}
	most := map[int64]int{}
	refused, entered := 0, 0
	for n, m := range graphModules(200) {
		if n%4 == 1 {
			m = disturbed(m, d)
		}
		for _, f := range m.Funcs {
			if n%4 > 1 && impl.CountOf(f) > 0 {
				f = scattered(f, d)
			}
			got := livingOf(f)
			if !livingAsked(f) {
				refused++
				if !isNoLiving(got) {
					t.Fatal(impl.ModuleText(alone(f)), got)
				}
				continue
			}
			if want := refLiving(f); !sameLiving(got, want) {
				t.Fatal(impl.ModuleText(alone(f)), got.text(), want.text(), got.most, want.most)
			}
			if len(impl.PredsOf(f, 0)) > 0 {
				entered++
			}
			most[min(got.most/5, 3)]++
		}
	}
	if refused < 10 || entered < 20 || most[0] < 20 || most[1] < 20 || most[2] < 20 || most[3] < 20 {
		t.Error(refused, entered, most)
	}
}

// What is alive at the end of a block is alive at the beginning of one it
// leads to, or comes to one of its phis from there; and the other way round.
func TestWhatIsAliveAtAnEnd(t *testing.T) {
	d := &dice{seed: 72}
	through, byPhi := 0, 0
	for n, m := range graphModules(100) {
		for _, f := range m.Funcs {
			if n%3 == 0 && impl.CountOf(f) > 0 {
				f = scattered(f, d)
			}
			for b := range int64(len(f.Blocks)) {
				out := impl.LiveOut(f, b)
				var want []int64
				for _, to := range impl.SuccsOf(f, b) {
					want = append(want, impl.LiveIn(f, to)...)
					through += len(want)
					at := slices.Index(impl.PredsOf(f, to), b)
					for _, p := range f.Blocks[to].Phis {
						want = append(want, p.Ins[at])
						byPhi++
					}
				}
				slices.Sort(want)
				if !sameList(out, slices.Compact(want)) {
					t.Fatal(impl.ModuleText(alone(f)), b, out, want)
				}
			}
		}
	}
	if through < 500 || byPhi < 500 {
		t.Error(through, byPhi)
	}
}

// What is right has nothing but parameters alive at its beginning, and nothing
// alive where it is not seen.
func TestWhatIsAliveIsSeen(t *testing.T) {
	for _, m := range graphModules(100) {
		pruned, _ := impl.Pruned(m)
		for _, f := range pruned.Funcs {
			for _, id := range impl.LiveIn(f, 0) {
				if id >= int64(len(f.Params)) {
					t.Fatal(impl.ModuleText(alone(f)), id)
				}
			}
			d := refDrawing(f)
			for b, block := range f.Blocks {
				for _, id := range impl.LiveOut(f, int64(b)) {
					if !has(refSeen(f, d, int64(b), len(block.Phis)+len(block.Insts)), id) {
						t.Fatal(impl.ModuleText(alone(f)), b, id)
					}
				}
			}
		}
	}
}

func TestPressureByHand(t *testing.T) {
	for text, want := range map[string]int64{
		"func 8\nblock\ntrap\n":                                          0,
		"func 8 8 8 8 8\nblock\ntrap\n":                                  0,
		"func 8\nblock\nconst 8 1\ntrap\n":                               0,
		"func 8 8 8\nblock\nret 0\n":                                     1,
		"func 8 8 8\nblock\nadd 8 0 1\nret 2\n":                          2,
		"func 8 8 8\nblock\nconst 8 1\nadd 8 0 1\nadd 8 2 3\nret 4\n":    3,
		"func 8 8\nblock\ntrap\nblock\nprint 0 0\nconst 8 1\nret 0\n":    1,
		"func 8 8\nblock\njump 1\nblock\nphi 8 0\nphi 8 0\nret 1\n":      1,
		"func 8 8\nblock\njump 1\nblock\nphi 8 0 2\nphi 8 0 1\njump 1\n": 2,
		// At the beginning of a block alone: it has neither phis nor instructions.
		"func 8 8 1\nblock\ntrap\nblock\nbranch 1 2 3\nblock\nret 0\nblock\ntrap\n": 2,
		sumText(): 5,
	} {
		if got := impl.Pressure(readFunc(t, text)); got != want {
			t.Errorf("%q: %d, not %d", text, got, want)
		}
	}
}

// turning has a constant, and as many phis as there is room for, which turn
// around in a loop: all of them are alive at once.
func turning() impl.Func {
	f := impl.Func{Ret: 1, Blocks: []impl.Block{
		{Insts: []impl.Inst{constInst(1, 1)}, Term: jumpTo(1)},
		{Term: branchOf(0, 1, 2)},
		{Term: trapEnd()},
	}}
	for id := int64(1); id < impl.MaxValues; id++ {
		next := id + 1
		if next == impl.MaxValues {
			next = 1
		}
		f.Blocks[1].Phis = append(f.Blocks[1].Phis, impl.Phi{W: 1, Ins: []int64{0, next}})
	}
	return f
}

func TestLivingAtLimits(t *testing.T) {
	f := turning()
	if c := impl.Checked(alone(f)); c != impl.VfOk {
		t.Fatal(c)
	}
	if got := livingOf(f); got.most != impl.MaxValues || !sameLiving(got, refLiving(f)) {
		t.Error(got)
	}
	// As many as there may be, each alive until the last one names some of them.
	row := counted(impl.MaxValues - 1)
	row.Blocks[0].Insts = append(row.Blocks[0].Insts, impl.Inst{Op: impl.OpCall, W: 8, Args: []int64{0, 20, 40, 58}})
	if got := livingOf(row); got.most != 4 || !sameLiving(got, refLiving(row)) {
		t.Error(got)
	}
	// One id goes through all blocks, against their order.
	back := impl.Func{Params: []int64{8}, Ret: 8, Blocks: []impl.Block{{Term: jumpTo(impl.MaxBlocks - 1)}, {Term: retOf(0)}}}
	for b := int64(2); b < impl.MaxBlocks; b++ {
		back.Blocks = append(back.Blocks, impl.Block{Term: jumpTo(b - 1)})
	}
	for b := range int64(impl.MaxBlocks) {
		if !sameList(impl.LiveIn(back, b), []int64{0}) {
			t.Error(b)
		}
	}
	for name, m := range modulesAtLimits() {
		for _, f := range m.Funcs {
			if got := livingOf(f); livingAsked(f) && !sameLiving(got, refLiving(f)) || !livingAsked(f) && !isNoLiving(got) {
				t.Error(name, got)
			}
		}
	}
}

func TestLivingWritesNothing(t *testing.T) {
	for seed := range uint64(40) {
		m := roomy(busyModule(seed))
		for _, f := range m.Funcs {
			a, b := livingOf(f), livingOf(f)
			if !sameLiving(a, b) || shareMemory(f, a.in, a.out, a.after, b.in, b.out, b.after) {
				t.Fatal(seed, a, b)
			}
		}
		if !reflect.DeepEqual(allOf(m), allOf(roomy(busyModule(seed)))) {
			t.Fatal(seed, "written into an argument")
		}
	}
}
