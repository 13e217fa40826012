package tests

import (
	"fmt"
	"math/rand"
	"regexp"
	"runtime"
	"slices"
	"strconv"
	"strings"
	"sync"
	"testing"

	"loop.example/g00719/impl"
)

const decimalText = `(?:0|-?[1-9][0-9]{0,15})`

// plainLines are the lines that a script may have behind the dot, each with its numbers.
var plainLines = map[string]*regexp.Regexp{
	"blank":     regexp.MustCompile(`^ *\z`),
	"run":       regexp.MustCompile(`^ *run((?: +` + decimalText + `)+) *\z`),
	"trace":     regexp.MustCompile(`^ *trace((?: +` + decimalText + `)+) *\z`),
	"analyze":   regexp.MustCompile(`^ *analyze((?: +` + decimalText + `){3}) *\z`),
	"at":        regexp.MustCompile(`^ *at( +` + decimalText + `) *\z`),
	"alarms":    regexp.MustCompile(`^ *alarms() *\z`),
	"certified": regexp.MustCompile(`^ *certified() *\z`),
	"print":     regexp.MustCompile(`^ *print() *\z`),
}

// plainKind is which of plainLines a line is, and its numbers; "" when it is none.
func plainKind(line string) (string, []int64) {
	for kind, form := range plainLines {
		if m := form.FindStringSubmatch(line); m != nil {
			var numbers []int64
			for _, word := range strings.Fields(strings.Join(m[1:], "")) {
				n, err := strconv.ParseInt(word, 10, 64)
				if err != nil {
					panic(err)
				}
				numbers = append(numbers, n)
			}
			return kind, numbers
		}
	}
	return "", nil
}

// plainScript is a script that goes on; report is nil when there is none.
type plainScript struct {
	p      impl.Prog
	report *impl.Report
}

func orNone(texts []string) string {
	if len(texts) == 0 {
		return "none"
	}
	return strings.Join(texts, " / ")
}

// say is for a line that is not of blanks alone.
func (s *plainScript) say(kind string, l []int64) string {
	var texts []string
	switch kind {
	case "run":
		out := impl.Run(s.p, l[1:], l[0])
		if out.Code == impl.RnForm {
			return "no"
		}
		return strings.TrimSuffix(fmt.Sprintf("code %d line %d steps %d %s", out.Code, out.Line, out.Steps, plainStoreText(s.p.D, out.Store)), " ")
	case "trace":
		for _, snap := range impl.Trace(s.p, l[1:], l[0]) {
			texts = append(texts, plainTokenText(snap.Token))
		}
		return orNone(texts)
	case "analyze":
		out := impl.AnalyzeProg(s.p, impl.Config{Delay: l[0], Narrow: l[1], Passes: l[2]})
		if s.report = nil; out.Code != impl.AnOk {
			return fmt.Sprintf("no %d", out.Code)
		}
		s.report = &out
		return fmt.Sprintf("passes %d alarms %d", out.Passes, len(out.Alarms))
	case "at":
		if s.report == nil || l[0] < 0 || l[0] > int64(len(s.p.Lines)) {
			return "none"
		}
		return impl.RowText(s.p.D, s.report.Rows[l[0]].Parts)
	case "alarms":
		for at := 0; s.report != nil && at < len(s.report.Alarms); at++ {
			texts = append(texts, impl.AlarmText(s.report.Alarms[at]))
		}
		return orNone(texts)
	case "certified":
		if s.report == nil {
			return "no"
		}
		return map[bool]string{true: "yes", false: "no"}[impl.Certified(s.p, s.report.Rows)]
	case "print":
		for line := range strings.Lines(impl.ProgText(s.p)) {
			texts = append(texts, line[:len(line)-1])
		}
		return orNone(texts)
	}
	return "what"
}

// plainSaid has what the dot says and then what each line says, "" where that is nothing; false when there is too much.
func plainSaid(text string) ([]string, bool) {
	if len(text) > 6000 || !strings.HasSuffix(text, "\n") {
		return nil, false
	}
	src, rest, dot := "", "\n"+text, false
	if src, rest, dot = strings.Cut(rest, "\n.\n"); !dot || strings.Count(rest, "\n") > 30 {
		return nil, false
	}
	if src != "" {
		src = src[1:] + "\n"
	}
	p, wrong := impl.ParseProg(src)
	said, s := []string{"ok"}, plainScript{p: p}
	if wrong != 0 {
		said[0] = fmt.Sprint("line ", wrong)
	}
	for line := range strings.Lines(rest) {
		kind, numbers := plainKind(line[:len(line)-1])
		switch {
		case kind == "blank":
			said = append(said, "")
		case wrong != 0:
			said = append(said, "none")
		default:
			said = append(said, s.say(kind, numbers))
		}
	}
	return said, true
}

// saidText is what a script says in which each line said this.
func saidText(said []string) string {
	text := ""
	for _, s := range said {
		if s != "" {
			text += s + "\n"
		}
	}
	return text
}

// checkScript holds what a script says against what its lines say one by one.
func checkScript(t *testing.T, text string) []string {
	t.Helper()
	said, ok := plainSaid(text)
	want := saidText(said)
	if !ok {
		want = "too long\n"
	}
	if s := impl.RunScript(text); s != want {
		t.Fatalf("%q: %q, not %q", text, s, want)
	}
	return said
}

// saysRow is a script and what it says, line by line, " ; " between two.
type saysRow struct{ src, lines, want string }

// checkSays runs a script of a source and of lines, "; " between two.
func checkSays(t *testing.T, rows []saysRow) {
	t.Helper()
	for _, r := range rows {
		text := r.src + ".\n"
		if r.lines != "" {
			text += strings.ReplaceAll(r.lines, "; ", "\n") + "\n"
		}
		want := strings.ReplaceAll(r.want, "; ", "\n") + "\n"
		if s := impl.RunScript(text); s != want {
			t.Errorf("%q: %q, not %q", text, s, want)
		}
		checkScript(t, text)
	}
}

// eachLineSource has each kind of line; its run goes wrong in line 4 for an input of 2, in line 6 for one of 3.
const eachLineSource = "var x y\nflag b\narray a 2\nx = input 0 3\nfork x < 2\na[x] = 5\nelse\ny = 6 / (x - 2)\nend\nassert y < 4\nb = true\nunroll 1 y < 2\ny = y + 1\nend\nif b\nsplit x 0 1\nmerge\nend\nwhile x > 0\nx = x - 1\nend\nassume y > 1\n"

func TestScriptsByHand(t *testing.T) {
	checkSays(t, []saysRow{
		{"", "", "ok"}, {"\n", "", "ok"}, {"  \n\n", "", "ok"}, {"var x\n", "", "ok"},
		{"", "print; run 0; run 5 1 2; trace 0; trace 7; analyze 0 0 1; at 0; at 1; alarms; certified", "ok; none; code 0 line 0 steps 0; code 0 line 0 steps 0; -; -; passes 1 alarms 0; - [all]; none; none; yes"},
		{eachLineSource, "run 2000 0; run 2000 2; run 2000 3; run 2000", "ok; code 0 line 19 steps 20 x 0 y 2 b true a 5 0; code 4 line 4 steps 3 x 2 y 0 b false a 0 0; code 7 line 6 steps 5 x 3 y 6 b false a 0 0; code 0 line 19 steps 20 x 0 y 2 b true a 5 0"},
		{eachLineSource, "trace 2000 0; trace 3; trace 2000 2; trace 2000 3", "ok; - / - / 1:1 / 1:1 / 1:1 / 1:1 / 1:1 / 1:1 / 1:1 8:1 / 1:1 8:1 / 1:1 8:1 / 1:1 8:1 / 1:1 8:1 / 1:1 8:1 / 1:1 8:1 / 1:1 8:1 / 1:1 8:1 12:0 / - / - / - / -; - / - / 1:1 / 1:1; - / - / 1:0; - / - / 1:0 / 1:0 / 1:0"},
		{eachLineSource, "print", "ok; var x y / flag b / array a 2 / x = input 0 3 / fork x < 2 / a[x] = 5 / else / y = 6 / (x - 2) / end / assert y < 4 / b = true / unroll 1 y < 2 / y = y + 1 / end / if b / split x 0 1 / merge / end / while x > 0 / x = x - 1 / end / assume y > 1"},
		{eachLineSource, "analyze 0 0 9; alarms; certified; at 0; at 1; at 2; at 4; at 6; at 7; at 18; at 19; at 20", "ok; passes 4 alarms 2; 4 div / 6 assert; yes; - b([none] | [x 0..0 y 0..0 a 0..0]); - b([none] | [x 0..3 y 0..0 a 0..0]); 1:1 b([none] | [x 0..1 y 0..0 a 0..0]); 1:0 b([none] | [x 2..3 y 0..0 a 0..0]); 1:0 b([none] | [x 2..3 y 6..6 a 0..0]) / 1:1 b([none] | [x 0..1 y 0..0 a 0..5]); 1:1 b([none] | [x 0..1 y 0..0 a 0..5]); - b([x 0..0 y 2..2 a 0..5] | [none]); - b([x 0..0 y 2..2 a 0..5] | [none]); none"},
		{"var x\nwhile x < 10\nx = x + 3\nend\n", "analyze 0 0 40; at 0; analyze 0 2 40; at 0; at 3; analyze 5 0 40; at 3; analyze 0 0 4; at 3; certified; alarms", "ok; passes 5 alarms 0; - [x 0..9223372036854775807]; passes 5 alarms 0; - [x 0..12]; - [x 10..12]; passes 6 alarms 0; - [x 10..12]; no 3; none; no; none"},
	})
}

func TestSourcesOfScripts(t *testing.T) {
	asked := "run 0; trace 0; analyze 0 0 9; at 0; alarms; certified; print; fly; at; ; run x; .; 7"
	all := func(first string) string { return first + strings.Repeat("; none", 12) }
	checkSays(t, []saysRow{
		{"x\n", asked, all("line 1")}, {"var x\nx = y\n", asked, all("line 2")}, {"var x\n\n \nx = 1\nx = 2 +\n", asked, all("line 5")}, {"var x\nx = 1\nvar y\n", asked, all("line 3")}, {"var x\nx = 1\nend\n", asked, all("line 3")}, {"if true\nelse\nelse\nend\n", asked, all("line 3")},
		// Behind its lines.
		{"var x\nwhile x < 3\n", asked, all("line 3")}, {"if true\n\n  \n", asked, all("line 4")}, {"fork true\nelse\n", asked, all("line 3")},
		// For its length.
		{strings.Repeat("\n", 4000), "print", "ok; none"}, {strings.Repeat("\n", 4001), asked, all("line 1")}, {"var x" + strings.Repeat(" ", 3984) + "\nx = input", "", "too long"}, {"var x" + strings.Repeat(" ", 3985) + "\nx = x+1\n\n", "print", "ok; var x / x = x + 1"}, {"var x" + strings.Repeat(" ", 3986) + "\nx = x+1\n\n", asked, all("line 1")},
		{strings.Repeat("merge\n", 30), "run 30", "ok; code 0 line 30 steps 30"}, {strings.Repeat("merge\n", 31), asked, all("line 31")},
		// What is no dot alone.
		{" .\n", "print", "line 1; none"}, {". \n", "print", "line 1; none"}, {"..\n", "print", "line 1; none"}, {"merge\n .\n.\t\n", asked, all("line 2")}, {"merge\n..\n", asked, all("line 2")}, {"merge\n. .\n", asked, all("line 2")}, {".merge\n", asked, all("line 1")}, {"merge.\n", asked, all("line 1")}, {".\r\n", asked, all("line 1")}, {"\x00.\n", asked, all("line 1")},
		{"", ".; ..;  .; print", "ok; what; what; what; none"}, {"merge\n", "print; .; print; . ; print", "ok; merge; what; merge; what; merge"},
		// Lines of blanks alone.
		{"\n  \nvar x\n\n    \nx = 1\n \n", ";  ;print; ;    ;run 1;", "ok; what; what"}, {"\n  \nvar x\n\n    \nx = 1\n \n", ";  ; print; ;    ; run 1;  ", "ok; var x / x = 1; code 0 line 1 steps 1 x 1"},
		{"x\n", "; ;   ; ", "line 1"},
	})
	// Wrong in each of its lines, one after the other.
	lines := strings.SplitAfter(strings.TrimSuffix(eachLineSource, "\n"), "\n")
	for at := range lines {
		wrong := slices.Clone(lines)
		wrong[at] = "what is this\n"
		want := fmt.Sprintf("line %d\nnone\nnone\n", at+1)
		if s := impl.RunScript(strings.Join(wrong, "") + "\n.\nprint\nrun 5\n"); s != want {
			t.Errorf("%d: %q", at, s)
		}
	}
}

func TestScriptsThatAreTooLong(t *testing.T) {
	for _, s := range []string{
		"", "\n", " ", ".", ". \n", " .\n", "..\n", "\n.", ".\r\n", "print\n", "var x\n", "var x\nx = 1\n", "\n\n\n",
		".\nprint", ".\n ", ".\n\n ", ".\nrun 5\nprint ", "x\n.", "x\n.\nprint", "var x\n.", ".\n.", ".\r", ".\n\r",
		".\n" + strings.Repeat("\n", 31), ".\n" + strings.Repeat("print\n", 31), ".\n" + strings.Repeat("print\n \n", 15) + "\n", "x\n.\n" + strings.Repeat("print\n", 31), ".\n" + strings.Repeat(".\n", 31), ".\n" + strings.Repeat("\n", 30) + "print", ".\n" + strings.Repeat("\n", 5998), "x\n" + strings.Repeat(" \n", 1000), strings.Repeat("x", 5000),
		strings.Repeat("\n", 5999) + ".\n", ".\n" + strings.Repeat(" ", 5998) + "\n", ".\nprint" + strings.Repeat(" ", 5993) + "\n", strings.Repeat(".\n", 1000000), strings.Repeat("print ", 1000000), ".\n" + strings.Repeat(" ", 1000000) + "\n",
	} {
		if said := impl.RunScript(s); said != "too long\n" {
			t.Errorf("%d bytes, %.40q: %q", len(s), s, said)
		}
		checkScript(t, s)
	}
	for _, r := range [][2]string{
		{".\n" + strings.Repeat("\n", 30), "ok\n"}, {".\n" + strings.Repeat("print\n", 30), "ok\n" + strings.Repeat("none\n", 30)}, {".\n" + strings.Repeat("print\n \n", 15), "ok\n" + strings.Repeat("none\n", 15)}, {"x\n.\n" + strings.Repeat("print\n", 30), "line 1\n" + strings.Repeat("none\n", 30)}, {strings.Repeat("\n", 500) + ".\n" + strings.Repeat(".\n", 30), "ok\n" + strings.Repeat("what\n", 30)},
		{strings.Repeat("\n", 5998) + ".\n", "line 1\n"}, {".\n" + strings.Repeat(" ", 5997) + "\n", "ok\n"}, {".\nprint" + strings.Repeat(" ", 5992) + "\n", "ok\nnone\n"}, {".\nprint" + strings.Repeat("x", 5992) + "\n", "ok\nwhat\n"}, {strings.Repeat("\n", 4000) + ".\n" + strings.Repeat(" ", 1992) + "print\n", "ok\nnone\n"},
	} {
		if said := impl.RunScript(r[0]); said != r[1] {
			t.Errorf("%d bytes, %.40q: %q", len(r[0]), r[0], said)
		}
		checkScript(t, r[0])
	}
	// As many bytes as there may be, one fewer, one more.
	for bytes := 5990; bytes <= 6010; bytes++ {
		text := "var x\nx = 1\n.\n"
		for many := 1; many <= 30; many++ {
			text += strings.Repeat(" ", many) + "print" + strings.Repeat(" ", 180-many) + "\n"
		}
		text = strings.Repeat(" ", bytes-len(text)-1) + "\n" + text
		if s := impl.RunScript(text); (s == "too long\n") != (len(text) > 6000) || len(text) != bytes || len(text) <= 6000 && s != "ok\n"+strings.Repeat("var x / x = 1\n", 30) {
			t.Errorf("%d: %q", bytes, s)
		}
	}
}

func TestLinesThatRun(t *testing.T) {
	zeros := func(many int) string { return strings.Repeat(" 0", many) }
	checkSays(t, []saysRow{
		{"var x\nx = 1\n", "run 0; run 1; run 2; run 2000; run 2001; run -1; run -2000; run 9999999999999999; run -9999999999999999; run 1 7; run 1 7 -8 9999999999999999 0", "ok; code 2 line 0 steps 0 x 0; code 0 line 1 steps 1 x 1; code 0 line 1 steps 1 x 1; code 0 line 1 steps 1 x 1; no; no; no; no; no; code 0 line 1 steps 1 x 1; code 0 line 1 steps 1 x 1"},
		{"var x\nx = input 0 9\nx = input 5 6\n", "run 5; run 5 4; run 5 4 3; run 5 -1 -1; run 5 9999999999999999 8 7; run 1 12", "ok; code 0 line 2 steps 2 x 5; code 0 line 2 steps 2 x 5; code 0 line 2 steps 2 x 6; code 0 line 2 steps 2 x 6; code 0 line 2 steps 2 x 5; code 2 line 1 steps 1 x 2"},
		{"var x\nx = input 0 9\n", "run 1 -9999999999999999; run 1 9999999999999999; run 1 -1; run 1 10; run 1 -10; run 1 0", "ok; code 0 line 1 steps 1 x 1; code 0 line 1 steps 1 x 9; code 0 line 1 steps 1 x 9; code 0 line 1 steps 1 x 0; code 0 line 1 steps 1 x 0; code 0 line 1 steps 1 x 0"},
		{"", "run 0" + zeros(1000) + "; run 0" + zeros(1001), "ok; code 0 line 0 steps 0; no"}, {"", "trace 0" + zeros(1000) + "; trace 0" + zeros(1001), "ok; -; none"},
		// Without a store to be told of.
		{"", "run 5", "ok; code 0 line 0 steps 0"}, {"assert true\n", "run 0; run 1", "ok; code 2 line 0 steps 0; code 0 line 1 steps 1"}, {"while true\nend\n", "run 2000; run 1", "ok; code 2 line 0 steps 2000; code 2 line 1 steps 1"},
		{"flag b\n", "run 0", "ok; code 0 line 0 steps 0 b false"}, {"array a 1\n", "run 0", "ok; code 0 line 0 steps 0 a 0"},
		// Each Code.
		{"merge\nassume false\n", "run 5; run 1", "ok; code 3 line 1 steps 2; code 2 line 1 steps 1"}, {"var x\nx = 1 / x\n", "run 5", "ok; code 4 line 0 steps 1 x 0"}, {"array a 1\na[0] = 7\na[1] = 2\n", "run 5", "ok; code 5 line 1 steps 2 a 7"}, {"var x\nx = -3\nx = 999999999999999999 * 999999999999999999\n", "run 5", "ok; code 6 line 1 steps 2 x -3"}, {"flag b c\nb = true\nassert !b\n", "run 5", "ok; code 7 line 1 steps 2 b true c false"}, {"var x\nx = 0 - 999999999999999999\nx = x * 9\n", "run 5", "ok; code 0 line 2 steps 2 x -8999999999999999991"},
		// Tokens.
		{"var x\nx = input 0 9\n", "trace 0; trace 1; trace 2 5; trace 2000; trace 2001; trace -1", "ok; -; - / -; - / -; - / -; none; none"}, {"var x\nx = input 0 9\nsplit x 2 4\nfork x == 3\nend\nmerge\n", "trace 9 3; trace 9 9; trace 2 4", "ok; - / - / 1:1 / 1:1 2:1 / 1:1 2:1 / -; - / - / 1:3 / 1:3 2:0 / 1:3 2:0 / -; - / - / 1:2"},
		{"assert false\n", "trace 0; trace 1; trace 9", "ok; -; -; -"}, {"var x\nunroll 2 x < 4\nx = x + 1\nend\n", "trace 99", "ok; - / 0:1 / 0:1 / 0:1 / 0:1 0:1 / 0:1 0:1 / 0:1 0:1 / 0:1 0:1 / 0:1 0:1 / 0:1 0:1 / 0:1 0:1 / 0:1 0:1 / 0:1 0:1 / 0:1 0:1"},
	})
}

func TestLinesThatAnalyze(t *testing.T) {
	loop := "var x\nwhile x < 10\nx = x + 3\nend\nassert x < 12\n"
	checkSays(t, []saysRow{
		{loop, "analyze 0 0 40; analyze 10 0 40; analyze 11 0 40; analyze -1 0 40; analyze 0 5 40; analyze 0 6 40; analyze 0 -1 40; analyze 0 0 1; analyze 0 0 0; analyze 0 0 41; analyze 10 5 40; analyze 0 0 -40; analyze 9999999999999999 0 40", "ok; passes 5 alarms 1; passes 6 alarms 1; no 1; no 1; passes 5 alarms 1; no 1; no 1; no 3; no 1; no 1; passes 6 alarms 1; no 1; no 1"},
		{loop, "analyze 0 0 4; analyze 0 0 5; analyze 2 0 5; analyze 2 0 6", "ok; no 3; passes 5 alarms 1; no 3; passes 6 alarms 1"},
		// Too many Parts.
		{tokenInputs + "split x 0 3\nsplit y 0 3\nw = input 0 4\nsplit w 0 3\n", "analyze 0 0 40; at 0; certified", "ok; no 3; none; no"}, {tokenInputs + "if b\n" + fiftyTokens + "else\nif c\n" + fiftyTokens + "end\nend\n", "analyze 0 0 40; at 0", "ok; no 3; none"},
		// A report that is lost, and one that is not.
		{loop, "at 0; alarms; certified; analyze 0 2 9; at 0; at 4; alarms; certified; analyze 0 0 4; at 0; alarms; certified", "ok; none; none; no; passes 5 alarms 1; - [x 0..12]; - [x 10..11]; 3 assert; yes; no 3; none; none; no"},
		{loop, "analyze 0 2 9; analyze 0 0 0; at 0; alarms; certified; analyze 0 2 9; at 0", "ok; passes 5 alarms 1; no 1; none; none; no; passes 5 alarms 1; - [x 0..12]"},
		{loop, "analyze 0 2 9; analyze 0 0; at 3; analyze 0 0 0 0; at 3; analyze 00 0 0; at 3; analyze; alarms; analyse 0 0 0; certified; analyze 0 0 9; at 3", "ok; passes 5 alarms 1; what; - [x 10..12]; what; - [x 10..12]; what; - [x 10..12]; what; 3 assert; what; yes; passes 5 alarms 1; - [x 10..12]"},
		// No alarms, one, more.
		{"", "analyze 0 0 1; alarms", "ok; passes 1 alarms 0; none"}, {"assert false\n", "analyze 0 0 2; alarms; at 0; at 1", "ok; passes 1 alarms 1; 0 assert; - [all]; none"},
		{"var x y\narray a 2\nx = input -1 2\na[x] = x * 999999999999999999 * 99 / x\nassert x == y\n", "analyze 0 0 2; alarms; certified", "ok; passes 2 alarms 4; 1 div / 1 bounds / 1 over / 2 assert; yes"},
		// Rows.
		{loop, "analyze 0 1 9; at -1; at 0; at 1; at 2; at 3; at 4; at 5; at 30; at 9999999999999999; at -9999999999999999", "ok; passes 5 alarms 1; none; - [x 0..12]; - [x 0..9]; - [x 3..12]; - [x 10..12]; - [x 10..11]; none; none; none; none"},
		{"flag b\nif b\nmerge\nend\n", "analyze 0 0 9; at 0; at 1; at 2; at 3", "ok; passes 2 alarms 0; - b([none] | [all]); none; - b([none] | [all]); - b([none] | [all])"},
		// Print.
		{"", "print", "ok; none"}, {" \n\n", "print", "ok; none"}, {"var x\n", "print", "ok; var x"}, {"merge\n", "print", "ok; merge"}, {" var  x\n\narray a 03  b 2\nx=(1)+a [ 0 ]\n\n", "print", "ok; var x / array a 3 b 2 / x = 1 + a[0]"},
	})
}

// whatLines are lines that are none, of any program and report.
func whatLines() []string {
	lines := []string{
		// Unknown words, and known ones in other letters, or of which a piece is missing or too much.
		"fly", "what", "ok", "none", "no", "yes", "line 1", "too long", "7", "-1", ".", "..", ". .", "-", "/", "print / print", "var x", "x = 1", "Run 5", "RUN 5", "rUn 5", "Trace 5", "tracE 5", "Analyze 0 0 9", "ANALYZE 0 0 9", "analyse 0 0 9", "At 0", "AT 0", "Alarms", "alarm", "ALARMS", "Certified", "certifieD", "Print", "PRINT", "ru 5", "runs 5", "un 5", "trac 5", "traces 5", "analyz 0 0 9", "a 0", "att 0", "alarmss", "alarms.", "certifie", "certify", "prin", "prints", "print.", ".print", "r un 5", "p rint", "at0", "run5", "trace0", "analyze0 0 9", "0 at", "5 run", "print5", "\"print\"", "(print)", "#print", "print;", "run, 5", "run 5,", "run 5;", "run(5)", "run=5", "prınt", "ＰＲＩＮＴ", "run ٣", "run ５", "at ²",
		// A number too few, or one too many.
		"run", "trace", "analyze", "analyze 0", "analyze 0 0", "analyze 0 0 9 0", "analyze 0 0 9 9 9", "at", "at 0 0", "at 0 1 2", "alarms 0", "alarms 1 2", "certified 0", "certified 9", "print 0", "print 1", "print print", "alarms alarms", "run run 5", "run 5 run", "at at", "at x", "certified x", "alarms -", "print -",
	}
	// Words that are no numbers in decimal.
	for _, word := range []string{
		"00", "01", "007", "-01", "-00", "+0", "+1", "+-1", "-0", "--1", "---1", "-", "+", "--", "- 1", "1-", "1-1", "1+1", "10000000000000000", "-10000000000000000", "99999999999999999", "00000000000000001", "9223372036854775807", "-9223372036854775808", "9223372036854775808", "18446744073709551616", "18446744073709551617", "1" + strings.Repeat("0", 40), "-1" + strings.Repeat("0", 40), strings.Repeat("0", 17), strings.Repeat("9", 150),
		"1.", "1.0", ".5", "1e1", "1E1", "0x1", "0b1", "0o1", "01x", "1_0", "1,0", "1'0", "x", "1x", "x1", "1\t", "\t1", "1\r", "1\v", "1\x00", "1\u00a0", "1\u2003", "١", "１", "−1", "1\xff", "\xff", "true", "NaN", "inf", "nil", "run", "½", "()", "(1)", "'1'",
	} {
		for _, form := range []string{"run N", "run N 1", "run 5 N", "run 5 1 N", "run 5 N 1", "trace N", "trace 5 N", "trace 5 1 1 N 1", "analyze N 0 9", "analyze 0 N 9", "analyze 0 0 N", "analyze N N N", "at N"} {
			lines = append(lines, strings.ReplaceAll(form, "N", word))
		}
	}
	// Bytes that are no blanks.
	for _, c := range []string{"\t", "\r", "\v", "\f", "\x00", "\x1f", "!", "\x7f", "\x80", "\xa0", "\u00a0", "\u0085", "\u2002", "\u3000", "\ufeff"} {
		for _, form := range []string{"print", "alarms", "certified", "at 0", "run 5", "trace 5 1", "analyze 0 0 9"} {
			lines = append(lines, c+form, form+c, " "+c+form, form+" "+c, form+c+" ", c+" "+form, strings.Replace(form, " ", c, 1)+c, strings.Replace(form, " ", " "+c, 1)+c, c)
		}
	}
	return lines
}

func TestLinesThatSayWhat(t *testing.T) {
	// The report stands, and the program does, whatever stands between.
	head, kept := "var x\nx = input 1 2\nassert x < 2\n.\nanalyze 0 0 9\n", "at 2\nalarms\ncertified\nprint\n"
	tail := "- [x 1..1]\n1 assert\nyes\nvar x / x = input 1 2 / assert x < 2\n"
	lines := whatLines()
	for _, line := range lines {
		if kind, _ := plainKind(line); kind != "" {
			t.Fatalf("%q is %s", line, kind)
		}
		for _, l := range []string{line, " " + line, line + "   ", "     " + line + " "} {
			if s := impl.RunScript(head + l + "\n" + kept); s != "ok\npasses 2 alarms 1\nwhat\n"+tail {
				t.Fatalf("%q: %q", l, s)
			}
		}
		if s := impl.RunScript(".\n" + line + "\n" + line + "\n"); s != "ok\nwhat\nwhat\n" {
			t.Fatalf("%q: %q", line, s)
		}
		if s := impl.RunScript("x\n.\n" + line + "\n" + line + "\n"); s != "line 1\nnone\nnone\n" {
			t.Fatalf("%q: %q", line, s)
		}
	}
	if len(lines) < 1000 {
		t.Error(len(lines))
	}
}

func TestBlanksInLines(t *testing.T) {
	head := "var x\nx = input 1 2\nassert x < 2\n.\nanalyze 0 0 9\n"
	for line, want := range map[string]string{
		"run 5 0": "code 0 line 2 steps 2 x 1", "run 5 0 -7 9999999999999999": "code 0 line 2 steps 2 x 1", "run 5 -9999999999999999": "code 7 line 1 steps 2 x 2", "trace 5": "- / - / -", "trace 0 1 1 1": "-", "analyze 0 0 9": "passes 2 alarms 1", "analyze 10 5 40": "passes 2 alarms 1", "analyze -1 0 0": "no 1", "at 1": "- [x 1..2]", "at -1": "none", "alarms": "1 assert", "certified": "yes", "print": "var x / x = input 1 2 / assert x < 2",
	} {
		for _, between := range []string{" ", "  ", "   ", strings.Repeat(" ", 100)} {
			for _, ahead := range []string{"", " ", "     "} {
				for _, behind := range []string{"", " ", "     "} {
					l := ahead + strings.ReplaceAll(line, " ", between) + behind
					if s := impl.RunScript(head + l + "\n"); s != "ok\npasses 2 alarms 1\n"+want+"\n" {
						t.Fatalf("%q: %q", l, s)
					}
				}
			}
		}
	}
}

var flagWord = regexp.MustCompile(`!?\bb\b`)

// scriptSource is that of a program with flags, arrays and tokens, or without.
func scriptSource(r *rand.Rand, flags, arrays, tokens bool) string {
	src := ""
	for line := range strings.Lines(loopySource(r)) {
		if !flags {
			if line == "flag b\n" {
				continue
			}
			if strings.HasPrefix(line, "b = ") {
				line = "x = y + 2\n"
			}
			line = flagWord.ReplaceAllString(line, "(x < y)")
		}
		if !arrays && strings.HasPrefix(line, "array ") {
			continue
		}
		if !arrays && strings.Contains(line, "a[") {
			line = "y = x - 1\n"
		}
		if word, rest, _ := strings.Cut(line, " "); !tokens {
			switch word {
			case "fork":
				line = "if " + rest
			case "unroll":
				line = "while" + rest[1:]
			case "split", "merge\n":
				line = "x = y - 2\n"
			}
		}
		src += line
	}
	return src
}

// anySource is a source of any kind of program, now and then one that is wrong.
func anySource(r *rand.Rand) string {
	src := ""
	switch r.Intn(8) {
	case 0:
		src = impl.ProgText(likelyProg(r))
	case 1:
		src = []string{"", "\n", "var x\n", "flag b\n", "merge\n", "assert true\n", "array a 16\na[3] = 4\n"}[r.Intn(7)]
	default:
		src = scriptSource(r, r.Intn(2) == 0, r.Intn(2) == 0, r.Intn(2) == 0)
	}
	if r.Intn(3) == 0 && src != "" {
		src, _ = looser(r, src)
	}
	if r.Intn(10) == 0 {
		lines := strings.SplitAfter(src, "\n")
		lines[r.Intn(len(lines))] = []string{"end\n", "else\n", "x = b\n", "var z\n", "..\n", "if true\n", "print\n"}[r.Intn(7)]
		src = strings.Join(lines, "")
	}
	return src
}

// askLine is one that asks, and changes nothing; now and then it is none.
func askLine(r *rand.Rand) string {
	numbers := func() string {
		text := fmt.Sprint(" ", []int64{0, 1, 3, 9, 40, 200, 2000, 2001, -1}[r.Intn(9)])
		for _, n := range someInputs(r) {
			text += fmt.Sprint(" ", n)
		}
		return text
	}
	switch r.Intn(9) {
	case 0, 1:
		return "run" + numbers()
	case 2:
		return "trace" + numbers()
	case 3, 4:
		return fmt.Sprint("at ", r.Intn(24)-1)
	case 5:
		return "alarms"
	case 6:
		return "certified"
	case 7:
		return "print"
	}
	return []string{"fly", "analyze 0 0", "analyze 0 0 0 0", "analyze 0 00 9", "run", "at", "print 0", "alarms 1", "certified x", "."}[r.Intn(10)]
}

func anyLine(r *rand.Rand) string {
	line := askLine(r)
	switch r.Intn(6) {
	case 0:
		line = fmt.Sprint("analyze ", r.Intn(4), " ", r.Intn(4), " ", []int{40, 40, 30, 12, 6, 3, 1}[r.Intn(7)])
		if r.Intn(6) == 0 {
			line = fmt.Sprint("analyze ", r.Intn(13)-1, " ", r.Intn(8)-1, " ", r.Intn(43)-1)
		}
	case 1:
		if r.Intn(2) == 0 {
			line = strings.Repeat(" ", r.Intn(3))
		}
	}
	if r.Intn(4) == 0 {
		line = strings.Repeat(" ", r.Intn(3)) + strings.ReplaceAll(line, " ", strings.Repeat(" ", 1+r.Intn(3))) + strings.Repeat(" ", r.Intn(3))
	}
	return line
}

// anyScript has a source and lines, as many as there may be at most.
func anyScript(r *rand.Rand, most int) (string, []string) {
	src := anySource(r) + ".\n"
	var lines []string
	for range r.Intn(most + 1) {
		lines = append(lines, anyLine(r)+"\n")
	}
	return src, lines
}

func TestScriptsOfAnyLines(t *testing.T) {
	r := rand.New(rand.NewSource(140))
	firsts, kinds, lives := map[string]int{}, map[string]int{}, map[string]int{}
	for range 700 {
		src, lines := anyScript(r, 30)
		said := checkScript(t, src+strings.Join(lines, ""))
		if said == nil {
			continue
		}
		first, _, _ := strings.Cut(said[0], " ")
		firsts[first]++
		if len(said) != len(lines)+1 {
			t.Fatal(len(said), len(lines))
		}
		for i, line := range lines {
			kind, _ := plainKind(strings.TrimSuffix(line, "\n"))
			kinds[kind]++
			if first == "ok" && said[i+1] != "none" && said[i+1] != "no" && said[i+1] != "what" {
				lives[kind]++
			}
		}
	}
	if firsts["ok"] < 500 || firsts["line"] < 20 {
		t.Error(firsts)
	}
	for kind := range plainLines {
		if kinds[kind] < 300 || lives[kind] < 80 {
			t.Error(kind, kinds[kind], lives[kind])
		}
	}
	if kinds[""] < 300 || lives[""] > 0 {
		t.Error(kinds, lives)
	}
}

// Promise 14: what was said stays said.
func TestScriptsThatGoOn(t *testing.T) {
	r := rand.New(rand.NewSource(141))
	cuts := 0
	for range 60 {
		src, lines := anyScript(r, 30)
		said := checkScript(t, src+strings.Join(lines, ""))
		for at := range lines {
			if said == nil {
				break
			}
			cut := src + strings.Join(lines[:at], "")
			if s := impl.RunScript(cut); s != saidText(said[:at+1]) {
				t.Fatalf("%q: %q, not %q", cut, s, said[:at+1])
			}
			cuts++
		}
	}
	if cuts < 400 {
		t.Error(cuts)
	}
	// Up to as many lines and bytes as there may be: one more, and nothing is said any more.
	text, before := "var x\nx = 1\n.\n", "ok\n"
	for n := range 30 {
		text += []string{"analyze 0 0 9\n", "at 1\n", "\n", "run 1\n", "certified\n"}[n%5]
		after := impl.RunScript(text)
		if !strings.HasPrefix(after, before) || (after == before) != (n%5 == 2) {
			t.Fatalf("%q: %q, not %q", text, after, before)
		}
		before = after
	}
	if s := impl.RunScript(text + "\n"); s != "too long\n" {
		t.Error(s)
	}
}

// Promise 14: lines that ask change nothing of what the others say.
func TestLinesThatAskChangeNothing(t *testing.T) {
	r := rand.New(rand.NewSource(142))
	put, kinds := 0, map[string]int{}
	for put < 700 {
		src, lines := anyScript(r, 16)
		text := src + strings.Join(lines, "")
		said := impl.RunScript(text)
		if said == "too long\n" {
			continue
		}
		for at := range len(lines) + 1 {
			ask := askLine(r)
			kind, _ := plainKind(ask)
			longer := src + strings.Join(lines[:at], "") + ask + "\n" + strings.Join(lines[at:], "")
			if len(longer) > 6000 {
				continue
			}
			ahead := strings.Count(impl.RunScript(src+strings.Join(lines[:at], "")), "\n")
			l := strings.SplitAfter(impl.RunScript(longer), "\n")
			if without := strings.Join(slices.Delete(l, ahead, ahead+1), ""); without != said {
				t.Fatalf("%q behind %d lines of %q: %q, not %q", ask, at, text, without, said)
			}
			put++
			kinds[kind]++
		}
	}
	for _, kind := range []string{"run", "trace", "at", "alarms", "certified", "print", ""} {
		if kinds[kind] < 20 {
			t.Error(kind, kinds)
		}
	}
}

// Each line behind each other one, with each report ahead of them.
func TestLinesBehindEachOther(t *testing.T) {
	lines := []string{"run 2000 1", "run 9 2", "trace 2000 0", "trace 4", "at 0", "at 6", "at 20", "alarms", "certified", "print", "analyze 0 0 9", "analyze 10 5 40", "analyze 0 0 3", "analyze 0 0 0", "fly", " "}
	for _, src := range []string{eachLineSource, "var x\nwhile x < 10\nx = x + 3\nend\n", "x\n"} {
		for _, first := range lines {
			for _, second := range lines {
				for _, third := range []string{"analyze 0 0 9", "analyze 0 2 40", "analyze 0 0 1", " "} {
					checkScript(t, src+".\n"+third+"\n"+first+"\n"+second+"\nat 6\nalarms\ncertified\n"+second+"\n"+first+"\n")
				}
			}
		}
	}
}

// What is no text, or no script at all.
func TestScriptsOfAnyBytes(t *testing.T) {
	for _, s := range []string{
		"\n", "\n\n", strings.Repeat("\n", 6000), strings.Repeat("\n", 6001), "\x00\n.\n", "\xff\xfe\n.\n\xff\n", ".\n\xff\xfe\x00\n\xc3\n", ".\r\n", ".\r\nprint\r\n", ".\nprint\r\n", ".\nprint\n\r\n", ".\nrun 5\r\nrun 5\n", "var x\r\nx = 1\r\n.\nprint\n", "\r\n.\nprint\n", "\n.\nprint\n", "\xef\xbb\xbf.\n", "\xef\xbb\xbf\n.\n", "．\n", "。\n.\n", ".\n.\n.\n", ".\u2028print\n", ".\n\u2028print\u2029\n",
	} {
		checkScript(t, s)
	}
	if s := impl.RunScript(".\nprint\r\n\r\n \nprint\n"); s != "ok\nwhat\nwhat\nnone\n" {
		t.Errorf("%q", s)
	}
	if s := impl.RunScript("var x\r\n.\nprint\n"); s != "line 1\nnone\n" {
		t.Errorf("%q", s)
	}
	r := rand.New(rand.NewSource(143))
	tooLong := 0
	for range 20000 {
		var s []byte
		for range r.Intn(60) {
			s = append(s, []string{".", "\n", "\n", "\n.\n", " ", "-", "0", "9", "print", "run ", "at ", "var x\n", "x", "=", "\r", "\t", "\x00", "\xff", "analyze 0 0 9", string(byte(r.Intn(256)))}[r.Intn(20)]...)
		}
		if r.Intn(2) == 0 {
			s = append(s, '\n')
		}
		if checkScript(t, string(s)) == nil {
			tooLong++
		}
	}
	if tooLong < 3000 || tooLong > 17000 {
		t.Error(tooLong)
	}
	eachText(".\n 0x", 7, func(s string) { checkScript(t, s) })
}

// Each byte of a script changed, left out, and put in.
func TestScriptsWithOtherBytes(t *testing.T) {
	script := []byte("var x\nx = 1\n.\nrun 1\ntrace 0 -1\nanalyze 0 0 9\nat 1\nalarms\ncertified\nprint\n\n")
	others, kinds := "\n .-+019x=\tarn\r\x00\x80\xff", map[string]int{}
	for at := range script {
		texts := []string{string(slices.Delete(slices.Clone(script), at, at+1))}
		for _, c := range []byte(others) {
			other := slices.Clone(script)
			other[at] = c
			texts = append(texts, string(other), string(slices.Insert(slices.Clone(script), at, c)))
		}
		for _, text := range texts {
			said := checkScript(t, text)
			if said == nil {
				kinds["too long"]++
				continue
			}
			kinds[said[0]]++
		}
	}
	if kinds["too long"] < 10 || kinds["ok"] < 1000 || kinds["line 1"] < 50 || kinds["line 2"] < 50 {
		t.Error(kinds)
	}
}

// Promise 15: also when other ones are run between, or at the same time.
func TestScriptsSayTheSameEachTime(t *testing.T) {
	r := rand.New(rand.NewSource(144))
	var texts, said []string
	for range 60 {
		src, lines := anyScript(r, 12)
		texts = append(texts, src+strings.Join(lines, ""))
	}
	texts = append(texts, "", ".\nat 0\nalarms\ncertified\n", eachLineSource+".\nat 6\nalarms\ncertified\n", eachLineSource+".\nanalyze 0 0 9\nat 6\nalarms\ncertified\n")
	for _, text := range texts {
		said = append(said, impl.RunScript(text))
		if again := impl.RunScript(text); again != said[len(said)-1] {
			t.Fatalf("%q: %q, then %q", text, said[len(said)-1], again)
		}
	}
	for range 3 {
		for _, at := range r.Perm(len(texts)) {
			if s := impl.RunScript(texts[at]); s != said[at] {
				t.Fatalf("%q: %q, then %q", texts[at], said[at], s)
			}
		}
	}
}

func TestScriptsAtOnce(t *testing.T) {
	defer runtime.GOMAXPROCS(runtime.GOMAXPROCS(0))
	r := rand.New(rand.NewSource(145))
	for _, procs := range []int{1, 2, 8} {
		runtime.GOMAXPROCS(procs)
		var texts, want []string
		for len(texts) < 16 {
			src, lines := anyScript(r, 8)
			texts = append(texts, src+strings.Join(lines, ""))
			want = append(want, impl.RunScript(texts[len(texts)-1]))
		}
		said := make([][2]string, len(texts))
		var asking sync.WaitGroup
		for at := range texts {
			for twice := range 2 {
				asking.Go(func() { said[at][twice] = impl.RunScript(texts[at]) })
			}
		}
		asking.Wait()
		for at, s := range said {
			if s[0] != want[at] || s[1] != want[at] {
				t.Fatalf("%q: %q, not %q", texts[at], s, want[at])
			}
		}
	}
}
