package tests

import (
	"regexp"
	"slices"
	"strconv"
	"strings"
	"testing"

	"loop.example/g00457/impl"
)

func scriptSays(t *testing.T, script string, want string) {
	t.Helper()
	if got := impl.RunScript(script); got != want {
		t.Errorf("%q: %q, not %q", script, got, want)
	}
}

// linesOf ends each of these.
func linesOf(l ...string) string {
	if len(l) == 0 {
		return ""
	}
	return strings.Join(l, "\n") + "\n"
}

// textLines puts a module's text into a script and reads it.
func textLines(text string) []string {
	var l []string
	for _, line := range strings.Split(strings.TrimSuffix(text, "\n"), "\n") {
		l = append(l, "- "+line)
	}
	return append(l, "read")
}

// saidBehind is what lines say when that text was read, without what was said
// ahead of them.
func saidBehind(t *testing.T, text string, l ...string) string {
	t.Helper()
	head := textLines(text)
	said := impl.RunScript(linesOf(append(head, l...)...))
	for range head {
		_, rest, found := strings.Cut(said, "\n")
		if !found {
			t.Fatalf("%q: %q", text, said)
		}
		said = rest
	}
	return said
}

func saysBehind(t *testing.T, text string, lines map[string]string) {
	t.Helper()
	for l, want := range lines {
		if got := saidBehind(t, text, l); got != want+"\n" {
			t.Errorf("%q behind %q: %q, not %q", l, text, got, want)
		}
	}
}

func TestScriptsThatSayNothing(t *testing.T) {
	for _, s := range []string{"", "\n", "\n\n\n", " \n", "  \n\n   \n", strings.Repeat("\n", impl.MaxScript), strings.Repeat(" ", impl.MaxText-1) + "\n"} {
		scriptSays(t, s, "")
	}
	scriptSays(t, "\n  \nsize\n \n\nsize\n\n", "0 0 0\n0 0 0\n")
}

func TestLinesThatAreNone(t *testing.T) {
	for _, l := range []string{
		"-", "-x", "--", "-- x", " - x", " -", "_ x", "-\tx",
		"fly", "x", "0", "ok", "no", "what", "too long", ",", "Clear", "SIZE", "clea", "clears", "sizes", "siz", "readsize", "size,", "size;",
		"\t", "\tsize", "size\t", "size\r", "\rsize", "size\x00", "\x00", "\xff", "size\u00a0", "\u3000", "sizé", "\v", "\f", "size\vsize",
		"clear x", "clear 0", "clear clear", "read x", "read 0", "read read", "size x", "size 0", "size size",
		"pass", "pass ", "pass fly", "pass fold clean", "pass fold, clean", "pass ,", "pass fold,", "pass ,fold", "pass fold,,clean", "pass 1", "pass Fold", "pass fold\t",
		"pass " + strings.Repeat("fold,", impl.MaxPass) + "fold",
		"run", "run ", "run x", "run 0", "run 1", "run -1", "run 0 0", "run 00", "run +0", "emit", "emit x", "emit 0", "emit 1", "emit 0 0", "emit -1",
		"passfold", "run0", "emit0", "0 run", "fold pass", "x size", "size\x00read",
	} {
		scriptSays(t, l+"\n", "what\n")
		scriptSays(t, "size\n"+l+"\nsize\n", "0 0 0\nwhat\n0 0 0\n")
	}
}

func TestTextOfAScript(t *testing.T) {
	scriptSays(t, "- \n", "ok\n")
	scriptSays(t, "- x\n-  x \n- - x\n- size\n", "ok\nok\nok\nok\n")
	scriptSays(t, "read\n", "no\n")
	scriptSays(t, "clear\nclear\nread\n", "ok\nok\nno\n")
	// Line by line, just as they stand.
	scriptSays(t, "- func 8 8\n- block\n- ret 0\nread\nsize\n", "ok\nok\nok\nok 0\n1 1 1\n")
	for _, x := range []string{" func 8 8", "func 8 8 ", "func  8 8", "- func 8 8", "func 8 08", "func 8 8\r", "", " "} {
		scriptSays(t, "- "+x+"\n- block\n- ret 0\nread\nsize\n", "ok\nok\nok\nno\n0 0 0\n")
	}
	// A line without anything is one of the text.
	scriptSays(t, "- func 8 8\n- block\n- ret 0\n- \nread\n", "ok\nok\nok\nok\nno\n")
	// What is said between does not stand in the text.
	scriptSays(t, "- func 8 8\nsize\n- block\n\nfly\n  \n- ret 0\nread\n", "ok\n0 0 0\nok\nwhat\nok\nok 0\n")
	// It stays when it is read, and more may stand behind it.
	scriptSays(t, "- func 8 8\n- block\n- ret 0\nread\nread\nsize\n- func 8 1\n- block\n- trap\nread\nsize\n", "ok\nok\nok\nok 0\nok 0\n1 1 1\nok\nok\nok\nok 0\n2 2 2\n")
	// Without it the module stays; only what is read is another one.
	scriptSays(t, "- func 8 8\n- block\n- ret 0\nread\nclear\nsize\nread\nsize\n- func 8\nread\nsize\nrun 0 7\n", "ok\nok\nok\nok 0\nok\n1 1 1\nno\n1 1 1\nok\nno\n1 1 1\n0 7 1\n")
	scriptSays(t, "- func 8 8\n- block\n- ret 0\nread\nclear\n- func 8\n- block\n- trap\nread\nsize\n", "ok\nok\nok\nok 0\nok\nok\nok\nok\nok 0\n1 1 0\n")
}

// Each code that a module in its form may have.
func TestReadOfEachCode(t *testing.T) {
	for text, code := range map[string]int64{
		"func 8 8\nblock\nret 0\n":                                      impl.VfOk,
		"func 8 8\nblock\njump 0\n":                                     impl.VfEntry,
		"func 8 8\nblock\njump 1\nblock\nphi 8\nret 1\n":                impl.VfPhi,
		"func 8 16\nblock\nret 0\n":                                     impl.VfType,
		"func 8 8\nblock\ncall 8 0\nret 0\n":                            impl.VfCall,
		"func 8\nblock\njump 2\nblock\nconst 8 1\ntrap\nblock\nret 0\n": impl.VfDom,
	} {
		l := textLines(text)
		want := strings.Repeat("ok\n", len(l)-1) + "ok " + strconv.FormatInt(code, 10) + "\n"
		scriptSays(t, linesOf(l...), want)
		if code == impl.VfOk {
			continue
		}
		// It is the module all the same, but nothing runs.
		saysBehind(t, text, map[string]string{"run 0 5": "no", "run 0": "no", "pass fold": "no", "pass split,clean": "no", "emit 0": "no", "run 1": "what", "emit 1": "what", "pass fly": "what"})
		if said := saidBehind(t, text, "size"); said == "0 0 0\n" {
			t.Error(text, said)
		}
	}
}

// Emitting asks for one function alone, whatever the others are.
func TestEmitAsksForOneFunction(t *testing.T) {
	text := "func 8 8\nblock\nconst 8 3\nadd 8 0 1\nret 2\nfunc 8 16\nblock\nret 0\nfunc 8 8\nblock\ncall 8 0 0\nret 1\n"
	saysBehind(t, text, map[string]string{"emit 0": "2 3", "emit 1": "no", "emit 2": "no", "emit 3": "what", "run 0 5": "no", "pass clean": "no", "size": "3 3 6"})
}

func TestSizeOfAScript(t *testing.T) {
	for _, x := range [][2]string{
		{"func 8\nblock\ntrap\n", "1 1 0"},
		{"func 8 8 8 8 8\nblock\ntrap\n", "1 1 4"},
		{"func 8 8\nblock\nconst 8 1\njump 1\nblock\nphi 8 1\nprint 0 2\nret 2\n", "1 2 4"},
		{"func 8 8\nblock\nret 0\nfunc 8 8\nblock\njump 1\nblock\nret 0\nfunc 8\nblock\nconst 8 1\nprint 0 0\nret 0\n", "3 4 4"},
		{impl.ModuleText(withBlocks(impl.MaxBlocks)), "1 10 0"},
	} {
		if got := saidBehind(t, x[0], "size"); got != x[1]+"\n" {
			t.Errorf("%q: %q, not %q", x[0], got, x[1])
		}
	}
}

func TestPassesOfAScript(t *testing.T) {
	text := "func 8 8\nblock\nconst 8 0\nadd 8 0 1\nprint 0 2\nret 2\n"
	saysBehind(t, text, map[string]string{
		"pass fold":               "ok 1 1 4",
		"pass clean":              "ok 1 1 4",
		"pass fold,copies,clean":  "ok 1 1 2",
		"  pass   fold,clean   ":  "ok 1 1 3",
		"pass split":              "ok 1 1 4",
		"pass fly":                "what",
		"pass":                    "what",
		"pass fold,":              "what",
		"pass fold copies":        "what",
		"pass fold,copies, clean": "what",
		"pass " + strings.Repeat("fold,", impl.MaxPass-1) + "clean": "ok 1 1 3",
		"pass " + strings.Repeat("fold,", impl.MaxPass) + "clean":   "what",
	})
	// One after the other, and what is refused changes nothing.
	got := saidBehind(t, text, "pass fold", "run 0 5", "pass fly", "pass copies", "pass", "pass clean", "size", "run 0 5", "read", "size")
	if got != "ok 1 1 4\n0 5 4 5\nwhat\nok 1 1 4\nwhat\nok 1 1 2\n1 1 2\n0 5 2 5\nok 0\n1 1 4\n" {
		t.Errorf("%q", got)
	}
	// Split has no room, wherever it stands; ahead of it there is some again.
	full := impl.ModuleText(alone(withEdges(impl.MaxBlocks, 1)))
	got = saidBehind(t, full, "pass split", "size", "pass clean,split", "pass prune,split", "size", "pass prune", "pass split")
	if got != "no\n1 10 1\nno\nok 1 4 1\n1 4 1\nok 1 4 1\nok 1 4 1\n" {
		t.Errorf("%q", got)
	}
}

func TestRunsOfAScript(t *testing.T) {
	for text, lines := range map[string]map[string]string{
		"func 8 8\nblock\nconst 8 3\nadd 8 0 1\nprint 0 2\nret 2\nfunc 8\nblock\nconst 8 1\nret 0\n": {
			"run 0 250": "0 253 4 253", "run 0 253": "0 0 4 0", "run 0 0": "0 3 4 3", "run 0 255": "0 2 4 2", "run 1": "0 1 2",
			"   run   0    250   ": "0 253 4 253",
			// No values of the parameter, or not as many.
			"run 0 256": "no", "run 0": "no", "run 0 1 2": "no", "run 0 1 2 3 4 5 6 7 8 9": "no", "run 1 0": "no", "run 0 9999999999": "no", "run 0 4294967296": "no",
			// No such function.
			"run 2": "what", "run 2 5": "what", "run 9999999999": "what", "run 4294967296 250": "what", "run 18446744073709551616 250": "what",
			// No numbers.
			"run 00 250": "what", "run 0 0250": "what", "run 0 +250": "what", "run +0 250": "what", "run 0 -1": "what", "run -0 250": "what", "run 0 -0": "what", "run 0 x": "what", "run x 250": "what",
			"run 0 250x": "what", "run 0 2 x": "what", "run 0 1 2 3 4 5 x": "what", "run 0 0x10": "what", "run 0 1_0": "what", "run 0 1.0": "what", "run 0 1e2": "what", "run 0,250": "what", "run 0 250,": "what", "run 0\t250": "what",
			"run 0 10000000000": "what", "run 00000000000 250": "what", "run 0 00000000250": "what", "run 0 99999999999999999999": "what", "run 0 18446744073709551866": "what", "run": "what",
			"runs 0 250": "what", "Run 0 250": "what", "run0 250": "what",
		},
		"func 32 1 8 16 32\nblock\nprint 0 0\nprint 0 1\nprint 0 2\nprint 0 3\nret 3\n": {
			"run 0 1 255 65535 4294967295": "0 4294967295 5 1 255 65535 4294967295", "run 0 0 0 0 0": "0 0 5 0 0 0 0",
			"run 0 2 0 0 0": "no", "run 0 0 256 0 0": "no", "run 0 0 0 65536 0": "no", "run 0 0 0 0 4294967296": "no", "run 0 0 0 0": "no", "run 0 0 0 0 0 0": "no",
		},
		// Each code.
		"func 8 8\nblock\nprint 0 0\nudiv 8 0 0\nret 2\n":                                  {"run 0 0": "1 0 2 0", "run 0 9": "0 1 3 9"},
		"func 8 32\nblock\nload 8 0\nprint 0 1\nret 1\n":                                   {"run 0 31": "0 0 3 0", "run 0 32": "2 0 1", "run 0 4294967295": "2 0 1"},
		"func 8 8\nblock\nprint 0 0\ntrap\n":                                               {"run 0 7": "3 0 2 7"},
		"func 8\nblock\njump 1\nblock\njump 1\n":                                           {"run 0": "4 0 2000"},
		"func 8\nblock\ncall 8 0\nret 0\n":                                                 {"run 0": "5 0 6"},
		"func 8\nblock\nconst 8 6\njump 1\nblock\nprint 0 0\njump 1\n":                     {"run 0": "7 0 63" + strings.Repeat(" 6", impl.MaxOut)},
		"func 8 8\nblock\nconst 32 1\nload 8 1\nstore 0 1 0\nload 8 1\nprint 0 2\nret 4\n": {"run 0 9": "0 9 6 0"},
	} {
		saysBehind(t, text, lines)
	}
	// Each run has a memory of its own.
	got := saidBehind(t, "func 8 8\nblock\nconst 32 1\nload 8 1\nstore 0 1 0\nret 2\n", "run 0 9", "run 0 9", "run 0 8")
	if got != "0 0 4\n0 0 4\n0 0 4\n" {
		t.Errorf("%q", got)
	}
}

func TestEmitsOfAScript(t *testing.T) {
	text := "func 8 8\nblock\nconst 8 3\nadd 8 0 1\nprint 0 2\nret 2\nfunc 8\nblock\ntrap\nfunc 8 8\nblock\ncall 8 0 0\nret 1\n"
	saysBehind(t, text, map[string]string{
		"emit 0": "2 4", "emit 1": "1 1", "emit 2": "no", " emit  1 ": "1 1",
		"emit 3": "what", "emit": "what", "emit 0 0": "what", "emit 0 x": "what", "emit x": "what", "emit 00": "what", "emit 01": "what", "emit +0": "what", "emit -0": "what", "emit -1": "what",
		"emit 9999999999": "what", "emit 10000000000": "what", "emit 00000000000": "what", "emit 0x0": "what",
	})
}

func TestBlanksOfAScript(t *testing.T) {
	text := "func 8 8\nblock\nret 0\n"
	for _, l := range []string{"size", "run 0 5", "emit 0", "pass clean", "clear", "read", "fly 0", "run x 5"} {
		want := saidBehind(t, text, l)
		wide := strings.ReplaceAll(l, " ", "    ")
		for _, x := range []string{" " + l, l + " ", "   " + l + "   ", wide, "  " + wide + " "} {
			if got := saidBehind(t, text, x); got != want {
				t.Errorf("%q: %q, not %q", x, got, want)
			}
		}
	}
}

func TestTooManyLines(t *testing.T) {
	for _, l := range []string{"size", "fly", "", "   ", "- x", "clear"} {
		for _, n := range []int{1, impl.MaxScript - 1, impl.MaxScript, impl.MaxScript + 1, impl.MaxScript + 2, 500} {
			s := strings.Repeat(l+"\n", n)
			got := impl.RunScript(s)
			if (got == "too long\n") != (n > impl.MaxScript) {
				t.Error(l, n, got)
			}
			if n <= impl.MaxScript && strings.TrimSpace(l) != "" && strings.Count(got, "\n") != n {
				t.Error(l, n, got)
			}
		}
	}
	// Lines of blanks count.
	scriptSays(t, "size\n"+strings.Repeat("\n", impl.MaxScript-1), "0 0 0\n")
	scriptSays(t, "size\n"+strings.Repeat("\n", impl.MaxScript), "too long\n")
	scriptSays(t, strings.Repeat(" \n", impl.MaxScript)+"size\n", "too long\n")
}

func TestTooManyBytes(t *testing.T) {
	for n := impl.MaxText - 3; n < impl.MaxText+4; n++ {
		long := n > impl.MaxText
		for _, x := range []struct{ head, fill, want string }{
			{"size\n", " ", "0 0 0\n"},
			{"size\n- ", "x", "0 0 0\nok\n"},
			{"", "x", "what\n"},
			{"size ", " ", "0 0 0\n"},
			{"- ", " ", "ok\n"},
			{"pass ", ",", "what\n"},
			{"run ", "1", "what\n"},
			{"run ", "1 ", "what\n"},
		} {
			s := x.head + strings.Repeat(x.fill, n)
			s = s[:n-1] + "\n"
			want := x.want
			if long {
				want = "too long\n"
			}
			if got := impl.RunScript(s); len(s) != n || got != want {
				t.Error(n, x, got)
			}
		}
	}
	scriptSays(t, strings.Repeat("x", 1000000)+"\n", "too long\n")
}

func TestLastLinesThatAreNotEnded(t *testing.T) {
	for _, s := range []string{"size", " ", "x", "- x", "size\nsize", "size\n ", "\nsize", "clear\n-", "\n\n\n\x00", "size\r", strings.Repeat("x", impl.MaxText), strings.Repeat("\n", impl.MaxScript) + " "} {
		scriptSays(t, s, "too long\n")
		if got := impl.RunScript(s + "\n"); got == "too long\n" && len(s) < impl.MaxText && strings.Count(s, "\n") < impl.MaxScript {
			t.Errorf("%q: %q", s, got)
		}
	}
}

// A refScript takes lines by patterns.
type refScript struct {
	text   string
	module impl.Module
}

func refSize(m impl.Module) string {
	blocks, ids := 0, int64(0)
	for _, f := range m.Funcs {
		blocks += len(f.Blocks)
		ids += impl.CountOf(f)
	}
	return strings.Join([]string{strconv.Itoa(len(m.Funcs)), strconv.Itoa(blocks), strconv.FormatInt(ids, 10)}, " ")
}

func matched(pattern string, line string) []string {
	return regexp.MustCompile(`(?s)\A(?:` + strings.ReplaceAll(pattern, "N", "(?:0|[1-9][0-9]{0,9})") + `)\z`).FindStringSubmatch(line)
}

func refNumbersIn(s string) []int64 {
	var l []int64
	for _, word := range regexp.MustCompile("[0-9]+").FindAllString(s, -1) {
		n, _ := strconv.ParseInt(word, 10, 64)
		l = append(l, n)
	}
	return l
}

func (s *refScript) says(line string) string {
	if x := matched(`- (.*)`, line); x != nil {
		s.text += x[1] + "\n"
		return "ok\n"
	}
	if matched(` *`, line) != nil {
		return ""
	}
	if matched(` *clear *`, line) != nil {
		s.text = ""
		return "ok\n"
	}
	if matched(` *read *`, line) != nil {
		m, ok := refReadModule(s.text)
		if !ok {
			return "no\n"
		}
		s.module = m
		return "ok " + strconv.FormatInt(impl.Checked(m), 10) + "\n"
	}
	if matched(` *size *`, line) != nil {
		return refSize(s.module) + "\n"
	}
	if x := matched(` *pass +([^ ]+) *`, line); x != nil {
		return s.passes(x[1])
	}
	if x := matched(` *run( +N(?: +N)*) *`, line); x != nil {
		return s.runs(refNumbersIn(x[1]))
	}
	if x := matched(` *emit( +N) *`, line); x != nil {
		return s.emits(refNumbersIn(x[1])[0])
	}
	return "what\n"
}

func (s *refScript) passes(word string) string {
	l, ok := refPassesOf(word)
	if !ok {
		return "what\n"
	}
	if impl.Checked(s.module) != impl.VfOk {
		return "no\n"
	}
	m, ok := refRunPasses(s.module, l)
	if !ok {
		return "no\n"
	}
	s.module = m
	return "ok " + refSize(m) + "\n"
}

func (s *refScript) runs(numbers []int64) string {
	if numbers[0] >= int64(len(s.module.Funcs)) {
		return "what\n"
	}
	r := impl.Invoked(s.module, numbers[0], numbers[1:], noughts(), 2000)
	if r.Code == impl.RsForm {
		return "no\n"
	}
	said := strconv.FormatInt(r.Code, 10)
	for _, n := range append([]int64{r.Value, r.Steps}, r.Out...) {
		said += " " + strconv.FormatInt(n, 10)
	}
	return said + "\n"
}

func (s *refScript) emits(k int64) string {
	if k >= int64(len(s.module.Funcs)) {
		return "what\n"
	}
	p, ok := impl.Emitted(s.module.Funcs[k])
	if !ok {
		return "no\n"
	}
	return strconv.FormatInt(p.Regs, 10) + " " + strconv.Itoa(len(p.Code)) + "\n"
}

func refRunScript(lines []string) string {
	s := &refScript{}
	said := ""
	for _, l := range lines {
		said += s.says(l)
	}
	return said
}

// shortTexts are of modules that a script has room for beside other lines.
func shortTexts(count int) []string {
	var l []string
	for seed := uint64(0); len(l) < count; seed++ {
		if s := impl.ModuleText(sizedModule(seed, madeSize{3, 3})); strings.Count(s, "\n") < 24 {
			l = append(l, s)
		}
	}
	return l
}

// askLines change nothing.
func askLines() []string {
	return []string{"size", "run 0", "run 0 0", "run 0 1", "run 0 1 1", "run 0 0 1 0", "run 1 1", "run 1 7 1", "run 2 0", "run 0 300", "run 3", "run x", "run 0 01", "emit 0", "emit 1", "emit 2", "emit 3", "emit", "fly", "-", "pass fly", "pass", "read x", "clear 1", "", "  ", " size  ", "run  1   0 "}
}

func doLines() []string {
	return []string{"read", "read", "clear", " read", "pass fold", "pass copies,clean", "pass share,choose,prune", "pass join,facts,split", "pass  split ", "- func 8", "- block", "- trap", "- ret 0", "-  trap", "- "}
}

// madeLines is a script made of dice: a module's text, and lines of all kinds
// anywhere between.
func madeLines(d *dice, texts []string) []string {
	l := textLines(texts[d.below(int64(len(texts)))])
	for len(l) < impl.MaxScript && d.below(20) > 0 {
		from := askLines()
		if d.below(2) == 0 {
			from = doLines()
		}
		line := from[d.below(int64(len(from)))]
		at := len(l)
		if d.below(8) == 0 {
			at = int(d.below(int64(len(l) + 1)))
		}
		l = slices.Insert(l, at, line)
	}
	return l
}

func TestScriptsAgainstOtherWays(t *testing.T) {
	d := &dice{seed: 101}
	texts := shortTexts(60)
	words := map[string]int{}
	for range 500 {
		l := madeLines(d, texts)
		got := impl.RunScript(linesOf(l...))
		if want := refRunScript(l); got != want {
			t.Fatalf("%q: %q, not %q", l, got, want)
		}
		for _, said := range strings.Split(got, "\n") {
			word, _, _ := strings.Cut(said, " ")
			words[word]++
		}
	}
	for _, word := range []string{"ok", "no", "what", "0", "1", "2", "3"} {
		if words[word] < 20 {
			t.Error(word, words)
		}
	}
}

func TestScriptsByteByByte(t *testing.T) {
	head := textLines("func 8 8\nblock\nconst 8 0\nadd 8 0 1\nprint 0 2\nret 2\n")
	for _, l := range []string{"size", "clear", "read", "pass fold,clean", "run 0 5", "emit 0", "- ret 0", " size "} {
		for _, x := range edits(l, " 0159-+,xsf\t\x00\xff\r") {
			lines := append(slices.Clone(head), x, "size", "read", "size")
			if got, want := impl.RunScript(linesOf(lines...)), refRunScript(lines); got != want {
				t.Fatalf("%q: %q, not %q", x, got, want)
			}
		}
	}
}

// What a script said stays said when more lines stand behind it.
func TestWhatAScriptSaidStaysSaid(t *testing.T) {
	d := &dice{seed: 102}
	texts := shortTexts(40)
	for range 150 {
		l := madeLines(d, texts)
		whole := impl.RunScript(linesOf(l...))
		said := ""
		for n := range l {
			part := impl.RunScript(linesOf(l[:n]...))
			if !strings.HasPrefix(part, said) || !strings.HasPrefix(whole, part) {
				t.Fatalf("%q: %q, then %q", l[:n], part, whole)
			}
			said = part
		}
	}
}

// Lines that ask change nothing: with and without them all others say the
// same.
func TestLinesThatAskChangeNothing(t *testing.T) {
	d := &dice{seed: 103}
	texts := shortTexts(40)
	asked := 0
	for range 300 {
		l := madeLines(d, texts)
		said := strings.SplitAfter(impl.RunScript(linesOf(l...)), "\n")
		var others []string
		want := ""
		at := 0
		for _, line := range l {
			if slices.Contains(askLines(), line) {
				asked++
				if strings.Trim(line, " ") != "" {
					at++
				}
				continue
			}
			others = append(others, line)
			want += said[at]
			at++
		}
		if got := impl.RunScript(linesOf(others...)); got != want {
			t.Fatalf("%q: %q, not %q", l, got, want)
		}
	}
	if asked < 1000 {
		t.Error(asked)
	}
}

// Whatever bytes there are, each line that is not blank says one line.
func TestScriptsOfStrangeBytes(t *testing.T) {
	d := &dice{seed: 104}
	pieces := []string{"size", "run", "emit", "pass", "read", "clear", "- ", "-", " ", "  ", "\n", "\n", "\n", "0", "1", "99999999999", "fold", ",", "\x00", "\xff\xfe", "\t", "é", "func 8", "block", "trap"}
	for range 2000 {
		var s strings.Builder
		for range d.below(60) {
			s.WriteString(pieces[d.below(int64(len(pieces)))])
		}
		text := s.String() + "\n"
		lines := strings.Split(strings.TrimSuffix(text, "\n"), "\n")
		want := refRunScript(lines)
		if len(lines) > impl.MaxScript {
			want = "too long\n"
		}
		if got := impl.RunScript(text); got != want {
			t.Fatalf("%q: %q, not %q", text, got, want)
		}
	}
}

func TestScriptsSayTheSameAgain(t *testing.T) {
	d := &dice{seed: 105}
	texts := shortTexts(20)
	for range 60 {
		s := linesOf(madeLines(d, texts)...)
		first := impl.RunScript(s)
		impl.RunScript("clear\n- func 8\nread\nsize\n")
		if again := impl.RunScript(s); again != first {
			t.Fatalf("%q: %q, then %q", s, first, again)
		}
	}
}
