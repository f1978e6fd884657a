package tests

import (
	"math"
	"reflect"
	"slices"
	"testing"

	"loop.example/g00457/impl"
)

// meetingPairs are all pairs that meet, the lesser id first; it asks for both
// ways.
func meetingPairs(t *testing.T, f impl.Func) [][]int64 {
	t.Helper()
	var l [][]int64
	for b := range impl.CountOf(f) {
		for a := range b {
			if impl.Meet(f, a, b) != impl.Meet(f, b, a) {
				t.Fatal(impl.ModuleText(alone(f)), a, b)
			}
			if impl.Meet(f, a, b) {
				l = append(l, []int64{a, b})
			}
		}
	}
	return l
}

// refMeetingPairs goes by what is alive behind each id, and by where ids stand.
func refMeetingPairs(f impl.Func) [][]int64 {
	after := refLiving(f).after
	at := func(id int64) (int64, bool) {
		b, k := impl.PlaceOf(f, id)
		return b, b < 0 || k < int64(len(f.Blocks[b].Phis))
	}
	var l [][]int64
	for b := range impl.CountOf(f) {
		for a := range b {
			home, first := at(a)
			other, too := at(b)
			meet := home == other && first && too || has(after[a], b) || has(after[b], a)
			if meet && impl.TypeOf(f, a) > 0 && impl.TypeOf(f, b) > 0 {
				l = append(l, []int64{a, b})
			}
		}
	}
	return l
}

func TestMeetByHand(t *testing.T) {
	for text, want := range map[string]string{
		"func 8\nblock\ntrap\n":   "",
		"func 8 8\nblock\ntrap\n": "",
		// Parameters that nobody names.
		"func 8 8 8\nblock\ntrap\n":         "0 1",
		"func 8 8 1 32\nblock\nret 0\n":     "0 1, 0 2, 1 2",
		"func 8\nblock\nconst 8 1\nret 0\n": "",
		// In a straight line: while it is still named, and not by whom it is named last.
		"func 8 8\nblock\nadd 8 0 0\nret 1\n":                         "",
		"func 8 8\nblock\nadd 8 0 0\nret 0\n":                         "0 1",
		"func 8\nblock\nconst 8 1\nconst 8 2\ntrap\n":                 "",
		"func 8\nblock\nconst 8 1\nconst 8 2\nret 0\n":                "0 1",
		"func 8\nblock\nconst 8 1\nconst 8 2\nret 1\n":                "",
		"func 8\nblock\nconst 8 1\nconst 8 2\nadd 8 0 1\nret 2\n":     "0 1",
		"func 8\nblock\nconst 8 1\nconst 8 2\nadd 8 0 1\nret 1\n":     "0 1, 1 2",
		"func 8 8 8\nblock\nconst 8 1\nadd 8 0 2\nmul 8 3 2\nret 4\n": "0 1, 0 2, 2 3",
		// What gives nothing meets nobody, though others are alive behind it, or it is named itself.
		"func 8 8 32\nblock\nstore 0 1 0\nprint 0 0\nret 0\n":                "0 1",
		"func 8 8\nblock\nprint 0 0\nprint 0 0\ncopy 8 1\ncopy 8 2\nret 1\n": "",
		"func 8 8\nblock\nprint 0 0\nconst 8 4\nprint 0 1\nret 2\n":          "",
		// Phis of one block, named or not; not of two blocks.
		"func 8 8\nblock\njump 1\nblock\nphi 8 0\nphi 8 0\nphi 1\ntrap\n":          "",
		"func 8 8\nblock\njump 1\nblock\nphi 8 0\nphi 8 0\ntrap\n":                 "1 2",
		"func 8 8\nblock\njump 1\nblock\nphi 8 0\nphi 8 0\nphi 1 0\nret 0\n":       "0 1, 0 2, 1 2, 0 3, 1 3, 2 3",
		"func 8 8\nblock\njump 1\nblock\nphi 8 0\njump 2\nblock\nphi 8 1\ntrap\n":  "",
		"func 8 8\nblock\njump 1\nblock\nphi 8 0\njump 2\nblock\nphi 8 0\nret 1\n": "0 1, 1 2",
		// A phi and an instruction of its block: only while it is alive.
		"func 8 8\nblock\njump 1\nblock\nphi 8 0\nconst 8 1\ntrap\n":  "",
		"func 8 8\nblock\njump 1\nblock\nphi 8 0\nconst 8 1\nret 1\n": "1 2",
		// Where two ways come together what each brings does not meet.
		"func 8 8 8 1\nblock\nbranch 2 1 2\nblock\ncopy 8 0\njump 3\nblock\ncopy 8 1\njump 3\nblock\nphi 8 3 4\nret 5\n": "0 1, 0 2, 1 2",
		"func 8 1\nblock\nconst 8 1\nconst 8 2\nbranch 0 1 2\nblock\nret 1\nblock\nret 2\n":                              "0 1, 0 2, 1 2",
		// Named ahead of where it is made.
		"func 8\nblock\nadd 8 1 1\nconst 8 4\nret 0\n": "0 1",
		sumText(): "0 1, 0 2, 1 2, 1 3, 2 3, 1 4, 2 4, 3 4, 1 5, 2 5, 3 5, 4 5, 1 6, 2 6, 3 6, 4 6, 1 7, 2 7, 6 7",
	} {
		f := readFunc(t, text)
		if got := meetingPairs(t, f); listsText(got) != want {
			t.Errorf("%q: %q, not %q", text, listsText(got), want)
		}
		for id := range impl.CountOf(f) {
			if impl.Meet(f, id, id) {
				t.Errorf("%q: %d meets itself", text, id)
			}
		}
	}
}

func TestNobodyMeets(t *testing.T) {
	odd := []int64{math.MinInt64, -2, -1, 0, 1, 2, 59, 60, math.MaxInt64}
	none := func(name string, f impl.Func) {
		t.Helper()
		for _, a := range odd {
			for _, b := range odd {
				if impl.Meet(f, a, b) {
					t.Error(name, a, b)
				}
			}
		}
	}
	for name, f := range formless() {
		none(name, f)
	}
	for _, text := range []string{
		"func 8 8 8\nblock\njump 1\nblock\nphi 8\nret 0\n",
		"func 8 8 8\nblock\njump 1\nblock\nphi 8 0 0\nret 0\n",
		"func 8 8 8\nblock\nret 0\nblock\nphi 8 0\nret 0\n",
	} {
		none(text, readFunc(t, text))
	}
	f := readFunc(t, "func 8 8 8\nblock\nadd 8 0 1\nadd 8 0 1\nret 0\n")
	for id := range impl.CountOf(f) {
		for _, other := range strangeIds(f) {
			if impl.Meet(f, id, other) || impl.Meet(f, other, id) || impl.Meet(f, other, other) {
				t.Error(id, other)
			}
		}
	}
}

// colourFuncs are functions of which something is told: right ones, and others
// in their form whose phis fit.
func colourFuncs(count uint64) []impl.Func {
	d := &dice{seed: 81}
	var l []impl.Func
	for n, m := range graphModules(count) {
		for _, f := range m.Funcs {
			if n%3 == 0 && impl.CountOf(f) > 0 {
				f = scattered(f, d)
			}
			l = append(l, f)
		}
	}
	return l
}

func TestMeetAgainstOtherWays(t *testing.T) {
	met, apart := 0, 0
	for _, f := range colourFuncs(15) {
		got, want := meetingPairs(t, f), refMeetingPairs(f)
		if !sameLists(got, want) {
			t.Fatal(impl.ModuleText(alone(f)), got, want)
		}
		n := int(impl.CountOf(f))
		met += len(got)
		apart += n*(n-1)/2 - len(got)
	}
	if met < 1000 || apart < 1000 {
		t.Error(met, apart)
	}
}

func TestColoursByHand(t *testing.T) {
	for text, want := range map[string]string{
		"func 8\nblock\ntrap\n":                                                         "",
		"func 8 8\nblock\ntrap\n":                                                       " 0",
		"func 8 8 1 32 16\nblock\ntrap\n":                                               " 0 1 2 3",
		"func 8 8 8\nblock\nprint 0 1\nret 1\n":                                         " 0 1 -1",
		"func 8 32 8\nblock\nstore 0 0 1\nadd 8 1 1\nret 3\n":                           " 0 1 -1 0",
		"func 8\nblock\nconst 8 1\nconst 8 2\nconst 8 3\ntrap\n":                        " 0 0 0",
		"func 8\nblock\nconst 8 1\nconst 8 2\nconst 8 3\nadd 8 0 1\nadd 8 3 2\nret 4\n": " 0 1 2 0 0",
		"func 8\nblock\nconst 8 1\nconst 8 2\nconst 8 3\nadd 8 1 2\nadd 8 3 0\nret 4\n": " 0 1 2 1 0",
		// A hole among those that are taken is filled.
		"func 8\nblock\nconst 8 1\nconst 8 2\nconst 8 3\nprint 0 1\nconst 8 4\nadd 8 0 2\nadd 8 4 5\nret 6\n": " 0 1 2 -1 1 0 0",
		// Phis: among themselves, and with what goes through.
		"func 8 8\nblock\njump 1\nblock\nphi 8 0\nphi 8 0\nphi 8 0\ntrap\n":                      " 0 0 1 2",
		"func 8 8\nblock\njump 1\nblock\nphi 8 0\nphi 8 0\nphi 8 0\nret 0\n":                     " 0 1 2 3",
		"func 8 8 8 1\nblock\njump 1\nblock\nphi 8 0 4\nphi 8 1 3\nbranch 2 1 2\nblock\nret 3\n": " 0 1 2 0 1",
		// A lesser id that stands behind counts.
		"func 8\nblock\njump 2\nblock\nadd 8 1 2\nret 0\nblock\nconst 8 1\nconst 8 2\njump 1\n": " 0 0 1",
		"func 8\nblock\njump 2\nblock\nadd 8 1 2\nret 2\nblock\nconst 8 1\nconst 8 2\njump 1\n": " 0 0 1",
		"func 8\nblock\njump 2\nblock\nadd 8 1 2\nret 1\nblock\nconst 8 1\nconst 8 2\njump 1\n": " 0 1 0",
		sumText(): " 0 1 2 0 3 4 4 0",
	} {
		f := readFunc(t, text)
		got := impl.ColoursOf(f)
		if refNumbers(got) != want {
			t.Errorf("%q: %q, not %q", text, refNumbers(got), want)
		}
		if !impl.ColoursOk(f, got) {
			t.Errorf("%q", text)
		}
	}
}

func TestNoColours(t *testing.T) {
	none := func(name string, f impl.Func) {
		t.Helper()
		if l := impl.ColoursOf(f); len(l) > 0 {
			t.Error(name, l)
		}
		own := make([]int64, impl.CountOf(f))
		for id := range own {
			own[id] = int64(id) % impl.MaxValues
			if impl.TypeOf(f, int64(id)) == 0 {
				own[id] = -1
			}
		}
		for _, l := range [][]int64{nil, {}, {0}, {-1}, own} {
			if impl.ColoursOk(f, l) {
				t.Error(name, l)
			}
		}
	}
	for name, f := range formless() {
		none(name, f)
	}
	for _, text := range []string{
		"func 8\nblock\njump 1\nblock\nphi 8\ntrap\n",
		"func 8 8\nblock\njump 1\nblock\nphi 8 0 0\nret 0\n",
		"func 8\nblock\ntrap\nblock\nphi 8 0\ntrap\n",
	} {
		none(text, readFunc(t, text))
	}
}

func TestColoursOk(t *testing.T) {
	// 0 and 1 meet, 3 meets none of them, 2 gives nothing.
	f := readFunc(t, "func 8 8 8\nblock\nprint 0 1\nconst 8 7\nret 3\n")
	for _, l := range [][]int64{{0, 1, -1, 2}, {1, 0, -1, 0}, {0, 1, -1, 1}, {59, 58, -1, 59}, {0, impl.MaxValues - 1, -1, 30}} {
		if !impl.ColoursOk(f, l) {
			t.Error(l)
		}
	}
	for _, l := range [][]int64{
		nil, {}, {0}, {0, 1}, {0, 1, -1}, {0, 1, -1, 2, 3}, {0, 1, -1, 2, -1}, {0, 1, 2},
		{0, 0, -1, 2}, {59, 59, -1, 2},
		{0, 1, 0, 2}, {0, 1, 3, 2}, {0, 1, -2, 2}, {0, 1, 60, 2}, {0, 1, math.MinInt64, 2}, {0, 1, math.MaxInt64, 2},
		{-1, 1, -1, 2}, {0, -1, -1, 2}, {0, 1, -1, -1}, {-1, -1, -1, -1}, {-2, 1, -1, 2},
		{impl.MaxValues, 1, -1, 2}, {0, impl.MaxValues, -1, 2}, {0, 1, -1, impl.MaxValues}, {0, 1, -1, impl.MaxValues + 1},
		{math.MinInt64, 1, -1, 2}, {0, 1, -1, math.MaxInt64}, {0, 1, -1, 1 << 32}, {0, 1, -1, 2 - 1<<40},
	} {
		if impl.ColoursOk(f, l) {
			t.Error(l)
		}
	}
	empty := readFunc(t, "func 8\nblock\ntrap\n")
	if !impl.ColoursOk(empty, nil) || !impl.ColoursOk(empty, []int64{}) || impl.ColoursOk(empty, []int64{0}) || impl.ColoursOk(empty, []int64{-1}) {
		t.Error("without values")
	}
	if impl.ColoursOk(counted(1), make([]int64, 100000)) {
		t.Error("many")
	}
}

// refColoursOk asks pair by pair.
func refColoursOk(f impl.Func, l []int64, pairs [][]int64) bool {
	if len(l) != int(impl.CountOf(f)) {
		return false
	}
	for id, c := range l {
		gives := impl.TypeOf(f, int64(id)) != 0
		if !gives && c != -1 || gives && (c < 0 || c >= 60) {
			return false
		}
	}
	return !slices.ContainsFunc(pairs, func(p []int64) bool { return l[p[0]] == l[p[1]] })
}

func TestColoursOkAgainstOtherWays(t *testing.T) {
	d := &dice{seed: 83}
	ok := 0
	asked := 0
	odd := []int64{-2, -1, 0, 1, 2, 3, 58, 59, 60, 61}
	for _, f := range colourFuncs(25) {
		pairs := refMeetingPairs(f)
		n := impl.CountOf(f)
		if n == 0 {
			continue
		}
		for k := range 12 {
			l := impl.ColoursOf(f)
			switch {
			case k < 5: // one more like another one
				l[d.below(n)] = l[d.below(n)]
			case k < 8: // each turned the other way round
				for id, c := range l {
					if c >= 0 {
						l[id] = 59 - c
					}
				}
				if k > 5 {
					l[d.below(n)] = l[d.below(n)]
				}
			default:
				l[d.below(n)] = d.oneOf(odd)
			}
			want := refColoursOk(f, l, pairs)
			if got := impl.ColoursOk(f, l); got != want {
				t.Fatal(impl.ModuleText(alone(f)), l, got, want)
			}
			if want {
				ok++
			}
			asked++
		}
	}
	if ok < 200 || asked-ok < 200 {
		t.Error(ok, asked)
	}
}

// What meets has unlike colours, and each is the least there may be: of all
// pairs, by Meet.
func TestWhatMeetsHasUnlikeColours(t *testing.T) {
	greatest := map[int64]int{}
	for _, f := range colourFuncs(15) {
		l := impl.ColoursOf(f)
		if int64(len(l)) != impl.CountOf(f) || !impl.ColoursOk(f, l) {
			t.Fatal(impl.ModuleText(alone(f)), l)
		}
		for id := range impl.CountOf(f) {
			if impl.TypeOf(f, id) == 0 {
				if l[id] != -1 {
					t.Fatal(impl.ModuleText(alone(f)), l, id)
				}
				continue
			}
			var below []int64
			for other := range id {
				if impl.Meet(f, other, id) {
					below = append(below, l[other])
				}
			}
			least := int64(0)
			for has(below, least) {
				least++
			}
			if l[id] != least {
				t.Fatal(impl.ModuleText(alone(f)), l, id, least)
			}
			greatest[min(l[id], 8)]++
		}
	}
	for c := range int64(9) {
		if greatest[c] < 20 {
			t.Error(greatest)
		}
	}
}

func TestColoursAtLimits(t *testing.T) {
	// All of them meet.
	f := turning()
	var each []int64
	for id := range int64(impl.MaxValues) {
		each = append(each, id)
	}
	if l := impl.ColoursOf(f); !sameList(l, each) || !impl.ColoursOk(f, l) {
		t.Error(l)
	}
	for _, c := range []int64{-1, 0, 58, impl.MaxValues} {
		l := copyList(each)
		l[59] = c
		if impl.ColoursOk(f, l) {
			t.Error(c)
		}
	}
	// None of them does.
	if l := impl.ColoursOf(counted(impl.MaxValues)); !sameList(l, make([]int64, impl.MaxValues)) {
		t.Error(l)
	}
	for name, m := range modulesAtLimits() {
		for _, f := range m.Funcs {
			l := impl.ColoursOf(f)
			if livingAsked(f) != impl.ColoursOk(f, l) || livingAsked(f) && int64(len(l)) != impl.CountOf(f) || !livingAsked(f) && len(l) > 0 {
				t.Error(name, l)
			}
		}
	}
}

func TestColoursWriteNothing(t *testing.T) {
	for seed := range uint64(40) {
		m := roomy(busyModule(seed))
		for _, f := range m.Funcs {
			a, b := impl.ColoursOf(f), impl.ColoursOf(f)
			given := roomyList(a)
			if !impl.ColoursOk(f, given) || !impl.ColoursOk(f, given) || !sameList(given, b) || slices.Max(append(given[len(a):cap(given)], 0)) > 0 {
				t.Fatal(seed, given)
			}
			if !sameList(a, b) || shareMemory(f, a, b, given) || impl.Meet(f, 0, 1) != impl.Meet(f, 0, 1) {
				t.Fatal(seed, a, b)
			}
		}
		if !reflect.DeepEqual(allOf(m), allOf(roomy(busyModule(seed)))) {
			t.Fatal(seed, "written into an argument")
		}
	}
}
