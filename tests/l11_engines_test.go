package tests

import (
	"fmt"
	"math/rand"
	"slices"
	"strings"
	"testing"

	"loop.example/g00719/impl"
)

// plainSteps takes numbers one by one in the document's order, and leaves off at the hundredth.
func plainSteps(p impl.Prog) []int64 {
	var all []int64
	all = append(all, 0)
	for _, l := range p.Lines {
		all = append(all, l.Lo, l.Hi)
		for _, tok := range l.I {
			if tok.Op == impl.TkNum {
				all = append(all, tok.N, 0-tok.N)
			}
		}
		for _, tok := range l.E {
			if tok.Op == impl.TkNum {
				all = append(all, tok.N, 0-tok.N)
			}
		}
	}
	seen := map[int64]bool{}
	var steps []int64
	for _, n := range all {
		if !seen[n] && len(seen) < 100 {
			seen[n] = true
			steps = append(steps, n)
		}
	}
	slices.Sort(steps)
	return steps
}

func checkSteps(t *testing.T, p impl.Prog) []int64 {
	t.Helper()
	l, want := impl.StepsOf(p), plainSteps(p)
	if !slices.Equal(l, want) {
		t.Fatalf("%s: %v, not %v", impl.ProgText(p), l, want)
	}
	return l
}

func TestSteps(t *testing.T) {
	const m = 999999999999999999
	for _, r := range []struct {
		lines string
		want  []int64
	}{
		{"", []int64{0}}, {"merge", []int64{0}}, {"x = 0", []int64{0}}, {"x = y", []int64{0}}, {"b = true", []int64{0}}, {"x = input 0 0", []int64{0}},
		{"x = 5", []int64{-5, 0, 5}}, {"x = 5 + 5", []int64{-5, 0, 5}}, {"x = -5", []int64{-5, 0, 5}}, {"x = 1 - 3 * y", []int64{-3, -1, 0, 1, 3}},
		// What LnInput, LnUnroll and LnSplit have comes without its opposite.
		{"x = input -7 9", []int64{-7, 0, 9}}, {"x = input 2 2", []int64{0, 2}}, {"x = input 0 4", []int64{0, 4}}, {"unroll 3 b; end", []int64{0, 3}}, {"unroll 1 x < 4; end", []int64{-4, 0, 1, 4}}, {"split x -2 1", []int64{-2, 0, 1}}, {"split x 5 5", []int64{0, 5}},
		{"x = input -5 5; x = 5", []int64{-5, 0, 5}}, {"x = input 5 9; x = 5", []int64{-5, 0, 5, 9}}, {"x = input -9 -5; x = 5", []int64{-9, -5, 0, 5}}, {"x = 5; x = input -5 5", []int64{-5, 0, 5}},
		{"a[1] = 2", []int64{-2, -1, 0, 1, 2}}, {"a[x] = y", []int64{0}}, {"a[a[3] + 1] = x * 4", []int64{-4, -3, -1, 0, 1, 3, 4}},
		{"b = x < 8", []int64{-8, 0, 8}}, {"if x < 8; else; end", []int64{-8, 0, 8}}, {"fork x < 8; end", []int64{-8, 0, 8}}, {"while x < 8; end", []int64{-8, 0, 8}}, {"assert x < 8", []int64{-8, 0, 8}}, {"assume x < 8", []int64{-8, 0, 8}},
		{"x = 3; y = 2; x = 1", []int64{-3, -2, -1, 0, 1, 2, 3}},
		{"x = " + most, []int64{-m, 0, m}}, {"x = input -" + most + " " + most, []int64{-m, 0, m}}, {"x = input -" + most + " -" + most, []int64{-m, 0}}, {"x = input " + most + " " + most, []int64{0, m}}, {"split x 999999999999999996 " + most, []int64{0, m - 3, m}},
	} {
		p := progOf(t, "var x y\nflag b\narray a 9\n"+strings.ReplaceAll(r.lines, "; ", "\n")+"\n")
		if l := checkSteps(t, p); !slices.Equal(l, r.want) {
			t.Errorf("%s: %v, not %v", r.lines, l, r.want)
		}
	}
	rnd := rand.New(rand.NewSource(110))
	for range 2000 {
		checkSteps(t, someProg(rnd))
	}
}

// manySteps is a program with just so many of them.
func manySteps(many int64) impl.Prog {
	p := impl.Prog{D: impl.Decl{Vars: []string{"x"}, Flags: []string{"b"}, Arrays: []impl.Arr{{Name: "a", Size: 2}}}}
	if many%2 == 0 {
		p.Lines = append(p.Lines, impl.Line{Kind: impl.LnInput, Lo: 0, Hi: 900})
	}
	// Each number here brings its opposite.
	for n := range (many - 1) / 2 {
		if n%15 == 0 {
			p.Lines = append(p.Lines, impl.Line{Kind: impl.LnSet, E: post("x")})
		}
		l := &p.Lines[len(p.Lines)-1]
		l.E = append(l.E, post(fmt.Sprint(1000+n, " +"))...)
	}
	return p
}

func TestMostSteps(t *testing.T) {
	number := func(s string) []impl.Tok { return post(s) }
	for _, many := range []int64{1, 2, 11, 12, 50, 98, 99, 100} {
		p := manySteps(many)
		if l := checkSteps(t, p); int64(len(l)) != many {
			t.Fatal(many, l)
		}
		for _, r := range []struct {
			line impl.Line
			more []int64
		}{
			{impl.Line{Kind: impl.LnInput, Lo: -300, Hi: -200}, []int64{-300, -200}},
			{impl.Line{Kind: impl.LnSplit, Lo: -301, Hi: -300}, []int64{-301, -300}},
			{impl.Line{Kind: impl.LnSet, E: number("500")}, []int64{500, -500}},
			{impl.Line{Kind: impl.LnSet, E: number("500 501 +")}, []int64{500, -500, 501, -501}},
			{impl.Line{Kind: impl.LnStore, I: number("502"), E: number("500")}, []int64{502, -502, 500, -500}},
			{impl.Line{Kind: impl.LnStore, I: number("x"), E: number("500")}, []int64{500, -500}},
			{impl.Line{Kind: impl.LnAssert, E: number("x 500 < 501 x < &")}, []int64{500, -500, 501, -501}},
			// 0 is there already, and does not count again.
			{impl.Line{Kind: impl.LnSet, E: number("0 500 +")}, []int64{500, -500}},
		} {
			q := impl.Prog{D: p.D, Lines: append(slices.Clone(p.Lines), r.line)}
			l := checkSteps(t, q)
			for i, n := range r.more {
				if slices.Contains(l, n) != (many+int64(i) < 100) {
					t.Error(many, r.line, n, l)
				}
			}
		}
	}
	// LnUnroll alone has both a Lo and an E.
	p := manySteps(99)
	q := impl.Prog{D: p.D, Lines: append(slices.Clone(p.Lines), impl.Line{Kind: impl.LnUnroll, Lo: 2, E: post("x 700 <")}, impl.Line{Kind: impl.LnEnd})}
	if l := checkSteps(t, q); len(l) != 100 || !slices.Contains(l, 2) || slices.Contains(l, 700) {
		t.Error(l)
	}
	// As many numbers as there may be: the first ones of the lines stay, wherever they lie.
	long := impl.Prog{D: impl.Decl{Vars: []string{"x"}}}
	n := int64(10000)
	for range 30 {
		l := impl.Line{Kind: impl.LnSet, E: post(fmt.Sprint(n))}
		for n--; len(l.E) < 39; n-- {
			l.E = append(l.E, post(fmt.Sprint(n, " +"))...)
		}
		long.Lines = append(long.Lines, l)
	}
	l := checkSteps(t, long)
	if len(l) != 100 || l[0] != -10000 || l[99] != 10000 || l[48] != -9952 || l[49] != 0 || l[50] != 9951 {
		t.Error(l)
	}
}

// plainRaised is what a row has together with an edge; false when there are too many tokens.
func plainRaised(d impl.Decl, there, more []impl.Part, widens bool, steps []int64) ([]impl.Part, bool) {
	var tokens [][]impl.Entry
	for _, p := range slices.Concat(there, more) {
		if !slices.ContainsFunc(tokens, func(t []impl.Entry) bool { return slices.Equal(t, p.Token) }) {
			tokens = append(tokens, p.Token)
		}
	}
	slices.SortFunc(tokens, func(a, b []impl.Entry) int { return strings.Compare(plainOrder(a), plainOrder(b)) })
	l := plainBoth(tokens, there, more, func(x, y []impl.Env) []impl.Env {
		if widens {
			return impl.TableWiden(d, x, y, steps)
		}
		return impl.TableJoin(d, x, y)
	})
	return l, len(l) <= 100
}

// plainNarrowed is none when there would be too many Parts.
func plainNarrowed(p impl.Prog, rows []impl.Row) []impl.Row {
	next := make([]impl.Row, len(rows))
	next[0].Parts = impl.Start(p)
	for at := range p.Lines {
		f := plainFlow(p, int64(at), rows[at].Parts)
		if f.Full {
			return nil
		}
		for _, e := range f.Edges {
			both, fits := plainRaised(p.D, next[e.To].Parts, e.Parts, false, nil)
			if !fits {
				return nil
			}
			next[e.To].Parts = both
		}
	}
	return next
}

// plainPass goes through all lines, whatever has changed; fits is false when there would be too many Parts.
func plainPass(p impl.Prog, rows []impl.Row, widens bool) (changed, fits bool) {
	for at := range int64(len(p.Lines)) {
		if len(rows[at].Parts) == 0 {
			continue
		}
		f := plainFlow(p, at, rows[at].Parts)
		if f.Full {
			return changed, false
		}
		for _, e := range f.Edges {
			if plainLeq(p.D, e.Parts, rows[e.To].Parts) {
				continue
			}
			changed = true
			back := at >= e.To
			both, fits := plainRaised(p.D, rows[e.To].Parts, e.Parts, back && widens, plainSteps(p))
			if !fits {
				return changed, false
			}
			rows[e.To].Parts = both
		}
	}
	return changed, true
}

// plainAnalyze is for a right program and config.
func plainAnalyze(p impl.Prog, c impl.Config) impl.Report {
	tooMuch := impl.Report{Code: impl.AnBudget}
	rows := make([]impl.Row, len(p.Lines)+1)
	rows[0].Parts = impl.Start(p)
	passes := int64(0)
	for {
		if passes == c.Passes {
			return tooMuch
		}
		changed, fits := plainPass(p, rows, passes >= c.Delay)
		if !fits {
			return tooMuch
		}
		passes++
		if !changed {
			break
		}
	}
	for range c.Narrow {
		rows = plainNarrowed(p, rows)
		if rows == nil {
			return tooMuch
		}
	}
	out := impl.Report{Rows: rows, Passes: passes}
	for at := range p.Lines {
		f := plainFlow(p, int64(at), rows[at].Parts)
		if f.Full {
			return tooMuch
		}
		for _, kind := range []int64{1, 2, 4, 8} {
			if f.Alarms/kind%2 == 1 {
				out.Alarms = append(out.Alarms, impl.Alarm{Line: int64(at), Kind: kind})
			}
		}
	}
	return out
}

func sameRows(a, b []impl.Row) bool {
	return slices.EqualFunc(a, b, func(x, y impl.Row) bool { return sameParts(x.Parts, y.Parts) })
}

func sameReport(a, b impl.Report) bool {
	return a.Code == b.Code && a.Line == b.Line && a.Passes == b.Passes && sameRows(a.Rows, b.Rows) && slices.Equal(a.Alarms, b.Alarms)
}

// showReport is the code and the line, if there are, or passes, the rows, and the alarms.
func showReport(r impl.Report) string {
	if r.Code != impl.AnOk {
		return fmt.Sprintf("code %d line %d, %d rows, %d alarms, %d passes", r.Code, r.Line, len(r.Rows), len(r.Alarms), r.Passes)
	}
	var rows []string
	for _, row := range r.Rows {
		if len(row.Parts) == 0 {
			rows = append(rows, "none")
			continue
		}
		rows = append(rows, showParts(row.Parts))
	}
	text := fmt.Sprint(r.Passes, ": ", strings.Join(rows, "; "))
	if len(r.Alarms) > 0 {
		text += " !"
	}
	for _, a := range r.Alarms {
		text += fmt.Sprintf(" %d:%d", a.Line, a.Kind)
	}
	return text
}

// noReport is how a report is shown that has nothing but a code and perhaps a line.
func noReport(code, line int64) string { return showReport(impl.Report{Code: code, Line: line}) }

// checkReport: of a right program and config, and that of as many passes as it takes, of one more and of one fewer.
func checkReport(t *testing.T, p impl.Prog, c impl.Config) impl.Report {
	t.Helper()
	out, want := impl.AnalyzeProg(p, c), plainAnalyze(p, c)
	if !sameReport(out, want) {
		t.Fatalf("%s%v: %s, not %s", impl.ProgText(p), c, showReport(out), showReport(want))
	}
	if out.Code != impl.AnOk {
		return out
	}
	for passes := out.Passes - 1; passes <= min(out.Passes+1, 40); passes++ {
		other := impl.AnalyzeProg(p, impl.Config{Delay: c.Delay, Narrow: c.Narrow, Passes: passes})
		want := out
		if passes < out.Passes {
			want = impl.Report{Code: impl.AnBudget}
		}
		if passes == 0 {
			want = impl.Report{Code: impl.AnForm}
		}
		if !sameReport(other, want) {
			t.Fatalf("%s%v of %d passes: %s, not %s", impl.ProgText(p), c, passes, showReport(other), showReport(want))
		}
	}
	return out
}

type reportRow struct {
	lines string
	c     impl.Config
	out   string
}

func checkReportRows(t *testing.T, head string, rows []reportRow) {
	t.Helper()
	for _, r := range rows {
		p := progOf(t, head+strings.ReplaceAll(r.lines, "; ", "\n")+"\n")
		if out := checkReport(t, p, r.c); showReport(out) != r.out {
			t.Errorf("%s, %v: %s, not %s", r.lines, r.c, showReport(out), r.out)
		}
	}
}

// settle has room for as many passes as there may be.
func settle(delay, narrow int64) impl.Config {
	return impl.Config{Delay: delay, Narrow: narrow, Passes: impl.MaxPasses}
}

const highest = "9223372036854775807"

func TestReportsOfStraightPrograms(t *testing.T) {
	plain := settle(0, 0)
	checkReportRows(t, "", []reportRow{{"", plain, "1: - {}"}, {"merge", plain, "2: - {}; - {}"}, {"assert false", plain, "1: - {}; none ! 0:8"}})
	checkReportRows(t, "var x\n", []reportRow{
		{"", plain, "1: - {0}"}, {"", settle(10, 5), "1: - {0}"},
		{"merge", plain, "2: - {0}; - {0}"},
		{"x = 1; x = x + 2; x = x * x", plain, "2: - {0}; - {1}; - {3}; - {9}"},
		{"x = 1; x = x + 2; x = x * x", settle(3, 5), "2: - {0}; - {1}; - {3}; - {9}"},
		// Nothing comes through line 0, so the first pass changes nothing.
		{"x = 6 / x", plain, "1: - {0}; none ! 0:1"}, {"x = 6 / x; x = 6 / x", settle(0, 1), "1: - {0}; none; none ! 0:1"},
		{"assume x > 0", plain, "1: - {0}; none"}, {"assert x > 0", plain, "1: - {0}; none ! 0:8"}, {"assert x == 0", plain, "2: - {0}; - {0}"},
		{"x = input 0 9; assert x < 5; assert x < 5", plain, "2: - {0}; - {0..9}; - {0..4}; - {0..4} ! 1:8"},
		{"x = input -2 9; if x < 5; x = 1; else; x = 2; end", plain, "2: - {0}; - {-2..9}; - {-2..4}; - {1}; - {5..9}; - {1..2}; - {1..2}"},
		{"if x > 0; x = 1 / 0; else; x = 5; end", plain, "2: - {0}; none; none; - {0}; - {5}; - {5}"},
		{"x = input 0 9; fork x < 5; x = 1; else; x = 2; end; merge", plain, "2: - {0}; - {0..9}; 1:1 {0..4}; 1:1 {1}; 1:0 {5..9}; 1:0 {2} / 1:1 {1}; 1:0 {2} / 1:1 {1}; - {1..2}"},
		{"x = input 0 9; fork x < 5; end", settle(0, 2), "2: - {0}; - {0..9}; 1:0 {5..9} / 1:1 {0..4}; 1:0 {5..9} / 1:1 {0..4}"},
		{"x = input 0 9; split x 0 1", plain, "2: - {0}; - {0..9}; 1:0 {0} / 1:1 {1} / 1:2 {2..9}"},
		{"x = input 0 9; split x 0 1", settle(0, 1), "2: - {0}; - {0..9}; 1:0 {0} / 1:1 {1} / 1:2 {2..9}"},
	})
	checkReportRows(t, "var x\narray a 2\n", []reportRow{
		{"x = input 0 99; x = x * " + most + " / x", plain, "2: - {0,0}; - {0..99,0}; - {0.." + highest + ",0} ! 1:1 1:4"},
		{"x = input 0 9; a[x] = 6 / x", plain, "2: - {0,0}; - {0..9,0}; - {0..9,0..6} ! 1:1 1:2"},
		{"x = input 0 9; assert 6 / x > 2; a[x] = 1", plain, "2: - {0,0}; - {0..9,0}; - {0..9,0}; - {0..9,0..1} ! 1:1 1:8 2:2"},
		{"x = input 0 9; assert a[x] + x * " + most + " * " + most + " / x > 2", plain, "2: - {0,0}; - {0..9,0}; - {0..9,0} ! 1:1 1:2 1:4 1:8"},
		// By line ahead of kind.
		{"x = input 0 9; assert x < 5; a[x] = 1; x = 6 / x", plain, "2: - {0,0}; - {0..9,0}; - {0..4,0}; - {0..4,0..1}; - {1..6,0..1} ! 1:8 2:2 3:1"},
	})
}

func TestReportsOfLoops(t *testing.T) {
	plain := settle(0, 0)
	checkReportRows(t, "var x\n", []reportRow{
		{"while x > 0; x = x + 1; end", plain, "2: - {0}; none; none; - {0}"},
		{"while true; end", plain, "2: - {0}; - {0}; none"},
		{"while true; x = x + 1; end", plain, "4: - {0.." + highest + "}; - {0.." + highest + "}; - {1.." + highest + "}; none ! 1:4"},
		{"while x < 10; x = x + 1; end", plain, "4: - {0..10}; - {0..9}; - {1..10}; - {10}"},
		{"while x > -10; x = x - 3; end", plain, "5: - {-9223372036854775808..0}; - {-9..0}; - {-12..-3}; - {-9223372036854775808..-10}"},
		{"while x > -10; x = x - 3; end", settle(0, 2), "5: - {-12..0}; - {-9..0}; - {-12..-3}; - {-12..-10}"},
		{"unroll 2 x < 3; x = x + 1; end", settle(10, 0), "5: - {0} / 0:1 {1} / 0:1 0:1 {2..3}; 0:1 {0} / 0:1 0:1 {1..2}; 0:1 {1} / 0:1 0:1 {2..3}; 0:1 0:1 {3}"},
		{"unroll 2 x < 3; x = x + 1; end", plain, "5: - {0} / 0:1 {1} / 0:1 0:1 {2..3}; 0:1 {0} / 0:1 0:1 {1..2}; 0:1 {1} / 0:1 0:1 {2..3}; 0:1 0:1 {3}"},
	})
	// Lines behind one that changes a row see it in the same pass, those ahead of it in the next one.
	checkReportRows(t, "var x y\n", []reportRow{
		{"while x < 3; y = 0; while y < 2; y = y + 1; end; x = x + 1; end", plain, "7: - {0..3,0..2}; - {0..2,0..2}; - {0..2,0..2}; - {0..2,0..1}; - {0..2,1..2}; - {0..2,2}; - {1..3,2}; - {3,0..2}"},
	})
	checkReportRows(t, "var x\nflag b\n", []reportRow{
		{"while !b; x = x + 1; b = x > 5; end", plain, "5: - {0..5 6}; - {0..5 .}; - {1..6 .}; - {1..5 6}; - {. 6}"},
	})
}

// Joins as long as the delay says, from then on widenings, and those only where an edge goes back.
func TestDelays(t *testing.T) {
	wide := ": - {0.." + highest + "}; - {0..9}; - {2..11}; - {10.." + highest + "}"
	var rows []reportRow
	for delay, passes := range []int{4, 5, 6, 7, 8, 8} {
		rows = append(rows, reportRow{"while x < 10; x = x + 1 + 1; end", settle(int64(delay), 0), fmt.Sprint(passes) + wide})
	}
	for delay := int64(6); delay <= 10; delay++ {
		rows = append(rows, reportRow{"while x < 10; x = x + 1 + 1; end", settle(delay, 0), "8: - {0..11}; - {0..9}; - {2..11}; - {10..11}"})
	}
	wide = ": - {0.." + highest + "}; - {0..9}; - {3..12}; - {10.." + highest + "}"
	for delay, passes := range []int{5, 5, 6, 6} {
		rows = append(rows, reportRow{"while x < 10; x = x + 3; end", settle(int64(delay), 0), fmt.Sprint(passes) + wide})
	}
	for delay := int64(4); delay <= 10; delay++ {
		rows = append(rows, reportRow{"while x < 10; x = x + 3; end", settle(delay, 0), "6: - {0..12}; - {0..9}; - {3..12}; - {10..12}"})
	}
	wide = ": - {0.." + highest + "}; - {0..29}; - {2..31}; - {30.." + highest + "}"
	for delay := range int64(11) {
		rows = append(rows, reportRow{"while x < 30; x = x + 1 + 1; end", settle(delay, 0), fmt.Sprint(4+delay) + wide})
	}
	checkReportRows(t, "var x\n", rows)
}

func TestNarrowings(t *testing.T) {
	loop := "while x < 10; x = x + 3; end"
	behind := "x = 2; while x < 10; x = x + 3; end"
	gone := "while x < 10; x = x + 3; end; if x > 3 * 7; x = 1 / 0; end"
	checkReportRows(t, "var x\n", []reportRow{
		{loop, settle(0, 0), "5: - {0.." + highest + "}; - {0..9}; - {3..12}; - {10.." + highest + "}"},
		{loop, settle(0, 1), "5: - {0..12}; - {0..9}; - {3..12}; - {10.." + highest + "}"},
		{loop, settle(0, 2), "5: - {0..12}; - {0..9}; - {3..12}; - {10..12}"},
		{loop, settle(0, 5), "5: - {0..12}; - {0..9}; - {3..12}; - {10..12}"},
		{loop, settle(4, 5), "6: - {0..12}; - {0..9}; - {3..12}; - {10..12}"},
		{behind, settle(0, 0), "4: - {0}; - {2.." + highest + "}; - {2..9}; - {5..12}; - {10.." + highest + "}"},
		{behind, settle(0, 1), "4: - {0}; - {2..12}; - {2..9}; - {5..12}; - {10.." + highest + "}"},
		{behind, settle(0, 2), "4: - {0}; - {2..12}; - {2..9}; - {5..12}; - {10..12}"},
		// Each time a row is made of what the rows ahead of it were, not of what they are made.
		{gone, settle(0, 0), "6: - {0.." + highest + "}; - {0..9}; - {3..12}; - {10.." + highest + "}; - {22.." + highest + "}; - {10..21}; - {10..21} ! 4:1"},
		{gone, settle(0, 1), "6: - {0..12}; - {0..9}; - {3..12}; - {10.." + highest + "}; - {22.." + highest + "}; - {10..21}; - {10..21} ! 4:1"},
		{gone, settle(0, 2), "6: - {0..12}; - {0..9}; - {3..12}; - {10..12}; - {22.." + highest + "}; - {10..21}; - {10..21} ! 4:1"},
		{gone, settle(0, 3), "6: - {0..12}; - {0..9}; - {3..12}; - {10..12}; none; - {10..12}; - {10..21}"},
		{gone, settle(0, 4), "6: - {0..12}; - {0..9}; - {3..12}; - {10..12}; none; - {10..12}; - {10..12}"},
		{gone, settle(0, 5), "6: - {0..12}; - {0..9}; - {3..12}; - {10..12}; none; - {10..12}; - {10..12}"},
	})
}

// counting counts to n with a step for each number: it takes n + 2 passes.
func counting(t *testing.T, n int) impl.Prog {
	src := "var x y\n"
	for from := 1; from <= n; from += 15 {
		src += "y = 0"
		for m := from; m <= min(from+14, n); m++ {
			src += fmt.Sprint(" * ", m)
		}
		src += "\n"
	}
	return progOf(t, src+fmt.Sprintf("while x < %d\nx = x + 1\nend\n", n))
}

func TestAsManyPassesAsThereMayBe(t *testing.T) {
	for n, c := range map[int]impl.Config{3: settle(0, 0), 20: settle(5, 1), 37: settle(10, 0), 38: settle(0, 0)} {
		p := counting(t, n)
		out := checkReport(t, p, c)
		if out.Code != impl.AnOk || out.Passes != int64(n)+2 || showParts(out.Rows[len(p.Lines)].Parts) != fmt.Sprintf("- {%d,0}", n) {
			t.Error(n, showReport(out))
		}
	}
	for _, n := range []int{39, 45} {
		if out := checkReport(t, counting(t, n), settle(0, 0)); showReport(out) != noReport(impl.AnBudget, 0) {
			t.Error(n, showReport(out))
		}
	}
}

func TestConfigs(t *testing.T) {
	src := "var x\nwhile x < 10\nx = x + 3\nend\n"
	p := progOf(t, src)
	var wrong []impl.Config
	for _, n := range []int64{low, -1, 11, 12, 40, top} {
		wrong = append(wrong, impl.Config{Delay: n, Passes: 40})
	}
	for _, n := range []int64{low, -1, 6, 7, 10, 40, top} {
		wrong = append(wrong, impl.Config{Narrow: n, Passes: 40})
	}
	for _, n := range []int64{low, -1, 0, 41, 42, top} {
		wrong = append(wrong, impl.Config{Passes: n})
	}
	wrong = append(wrong, impl.Config{}, impl.Config{Delay: -1, Narrow: -1, Passes: -1}, impl.Config{Delay: 11, Narrow: 6, Passes: 41})
	for _, c := range wrong {
		for _, out := range []impl.Report{impl.AnalyzeProg(p, c), impl.AnalyzeProg(impl.Prog{}, c), impl.AnalyzeProg(impl.Prog{Lines: make([]impl.Line, 1)}, c), impl.Analyze(src, c), impl.Analyze("", c), impl.Analyze("what", c)} {
			if showReport(out) != noReport(impl.AnForm, 0) {
				t.Error(c, showReport(out))
			}
		}
	}
	for delay := range int64(11) {
		for narrow := range int64(6) {
			for _, passes := range []int64{1, 2, 5, 6, 7, 39, 40} {
				c := impl.Config{Delay: delay, Narrow: narrow, Passes: passes}
				if out := checkReport(t, p, c); (out.Code == impl.AnOk) != (passes > 5 || passes == 5 && delay < 2) {
					t.Error(c, showReport(out))
				}
				if out := checkReport(t, impl.Prog{}, c); out.Code != impl.AnOk || out.Passes != 1 || len(out.Rows) != 1 {
					t.Error(c, showReport(out))
				}
			}
		}
	}
}

func TestReportsOfSources(t *testing.T) {
	c := settle(0, 2)
	for _, r := range []struct {
		src  string
		want string
	}{
		{"", "1: - {}"}, {"\n\n", "1: - {}"}, {"var x\nx = 1\n", "2: - {0}; - {1}"}, {" var  x\n\nx=(1)\n", "2: - {0}; - {1}"}, {"var x\nwhile x < 10\nx = x + 3\nend\n", "5: - {0..12}; - {0..9}; - {3..12}; - {10..12}"},
		{"x", noReport(impl.AnParse, 1)}, {"var x\nx = y\n", noReport(impl.AnParse, 2)}, {"var x\n\nx = 1\nend\n", noReport(impl.AnParse, 4)}, {"var x\nwhile x < 3\n", noReport(impl.AnParse, 3)}, {"var x\nx = 1", noReport(impl.AnParse, 2)}, {strings.Repeat("\n", 4000), "1: - {}"}, {strings.Repeat("\n", 4001), noReport(impl.AnParse, 1)}, {strings.Repeat("merge\n", 31), noReport(impl.AnParse, 31)},
	} {
		out := impl.Analyze(r.src, c)
		if showReport(out) != r.want {
			t.Errorf("%q: %s, not %s", r.src, showReport(out), r.want)
		}
		// The config is looked at ahead of the source.
		if out := impl.Analyze(r.src, impl.Config{Delay: 11, Passes: 40}); showReport(out) != noReport(impl.AnForm, 0) {
			t.Errorf("%q: %s", r.src, showReport(out))
		}
	}
	if out := impl.Analyze("var x\nwhile x < 10\nx = x + 3\nend\n", impl.Config{Passes: 4}); showReport(out) != noReport(impl.AnBudget, 0) {
		t.Error(showReport(out))
	}
	r := rand.New(rand.NewSource(111))
	for range 300 {
		p := likelyProg(r)
		c := impl.Config{Delay: r.Int63n(4), Narrow: r.Int63n(3), Passes: 1 + r.Int63n(12)}
		if src := impl.ProgText(p); len(src) <= 4000 && !sameReport(impl.Analyze(src, c), impl.AnalyzeProg(p, c)) {
			t.Fatal(src, c)
		}
	}
}

// Each has fifty tokens, whatever came to it.
const fiftyTokens = "merge\nsplit x 0 3\nsplit y 0 3\nsplit z 0 1\n"

const tokenInputs = "var x y z w\nflag b c\nx = input -1 3\ny = input -1 3\nz = input 0 1\nw = input 0 3\nb = w > 1\nc = w == 1\n"

func TestReportsWithinTheirBudgets(t *testing.T) {
	for _, r := range []struct {
		what, lines string
		at, many    int
	}{
		{"flows", "split x 0 3\nsplit y 0 3\nsplit w 0 2\n", 9, 100},
		{"a flow that is full", "split x 0 3\nsplit y 0 3\nw = input 0 4\nsplit w 0 3\n", 0, 0},
		{"a full flow of a line that nobody comes to", "assume w > 3\nsplit x 0 3\nsplit y 0 3\nw = input 0 4\nsplit w 0 3\n", 7, 0},
		{"a join", "if b\n" + fiftyTokens + "else\n" + fiftyTokens + "end\n", 16, 100},
		{"a join of one more", "if b\n" + fiftyTokens + "else\nif c\n" + fiftyTokens + "end\nend\n", 0, 0},
		{"a join of one fewer", "if b\nmerge\nx = 0\nsplit y 0 3\nelse\nif c\n" + fiftyTokens + "end\nend\n", 17, 56},
		{"a join of forks", "split x 0 3\nsplit y 0 3\nfork b\nelse\nend\nmerge\nfork c\nend\n", 14, 2},
		{"a loop", fiftyTokens + "while true\n" + fiftyTokens + "end\n", 10, 100},
		{"a loop of one more", "if c\n" + fiftyTokens + "end\nwhile true\n" + fiftyTokens + "end\n", 0, 0},
		{"a loop in which there is one more", fiftyTokens + "while true\nif c\n" + fiftyTokens + "end\nb = !b\nend\n", 17, 100},
		{"a loop in which there is one more that is merged", fiftyTokens + "while true\nmerge\nif c\n" + fiftyTokens + "end\nend\n", 0, 0},
	} {
		p := progOf(t, tokenInputs+r.lines)
		for _, delay := range []int64{0, 1, 10} {
			for _, narrow := range []int64{0, 1, 2, 5} {
				out := impl.AnalyzeProg(p, settle(delay, narrow))
				if narrow < 2 {
					out = checkReport(t, p, settle(delay, narrow))
				}
				if r.at == 0 {
					if showReport(out) != noReport(impl.AnBudget, 0) {
						t.Error(r.what, delay, narrow, showReport(out))
					}
					continue
				}
				if out.Code != impl.AnOk || len(out.Rows[r.at].Parts) != r.many {
					t.Fatal(r.what, delay, narrow, out.Code)
				}
			}
		}
	}
}

// lessOrEven: whether each row of a has no more than that of b.
func lessOrEven(d impl.Decl, a, b []impl.Row) bool {
	return slices.EqualFunc(a, b, func(x, y impl.Row) bool { return plainLeq(d, x.Parts, y.Parts) })
}

// loopySource is a program in which what is told hangs on the passes, and runs go far.
func loopySource(r *rand.Rand) string {
	src, lines := "var x y\nflag b\narray a 3\n", 0
	pick := func(l ...string) string { return l[r.Intn(len(l))] }
	truth := func() string {
		return pick("x < 5", "y < 4", "x + y < 7", "b", "!b", "x != y", "x <= y | b", "!b & y > -3", "true", "y == 2 * x", "x > 2 & y < x", "x > 3 * 7", "y > 4 * 8")
	}
	put := func(s string) {
		src += s + "\n"
		lines++
	}
	var fill func(many, deep int)
	fill = func(many, deep int) {
		for range many {
			if lines > 18 {
				return
			}
			head := pick("", "", "", "if ", "fork ", "while ", "unroll ")
			if deep == 0 || head == "" {
				put(pick("x = x + 1", "x = x + 3", "y = y + 2", "y = y + x", "x = x - y", "x = 0", "y = 1", "x = input -1 3", "x = input 0 9", "y = input 0 9", "y = input -2 20", "b = "+truth(), "b = "+truth(), "a[x] = y", "a[x - 2] = 4", "a[1] = x + y", "y = a[0] + 1", "x = a[y]", "split x 0 1", "split y -1 2", "merge", "assert x < 3 * 7", "assert y < 4 * 8", "assert y != 3", "assert x >= 0", "assume y > -3", "assume x < 40", "x = 6 / y", "y = x % 4", "y = y * 999999999999999999"))
				continue
			}
			body := ""
			switch head {
			case "while ", "unroll ":
				head = strings.Replace(head, "unroll ", pick("unroll 1 ", "unroll 2 ", "unroll 3 "), 1)
				on, step, _ := strings.Cut(pick("x < 10; x = x + 3", "x < 10; x = x + 1", "y < 17; y = y + 1 + 1", "y < 17; y = y + 5", "x > y; x = x - 2", "!b; b = x < y", "x + y < 30; x = x + 4", "x != 9; x = x + 1", "true; y = y - 3"), "; ")
				head, body = head+on, step
			default:
				head += truth()
			}
			put(head)
			fill(r.Intn(3), deep-1)
			if body != "" {
				put(body)
			} else if r.Intn(2) == 0 {
				put("else")
				fill(1+r.Intn(2), deep-1)
			}
			put("end")
		}
	}
	fill(2+r.Intn(6), 3)
	return src
}

// checkCovers: promise 11, of one run.
func checkCovers(t *testing.T, p impl.Prog, out impl.Report, inputs []int64, fuel int64) int64 {
	t.Helper()
	for _, s := range impl.Trace(p, inputs, fuel) {
		if !impl.PartsHas(p.D, out.Rows[s.Line].Parts, s.Token, s.Store) {
			t.Fatalf("%s%v: %v is not in %s", impl.ProgText(p), inputs, s, showReport(out))
		}
	}
	end := impl.Run(p, inputs, fuel)
	if kind := alarmOfRun(end.Code); kind != 0 && !slices.Contains(out.Alarms, impl.Alarm{Line: end.Line, Kind: kind}) {
		t.Fatalf("%s%v: no alarm %d:%d: %s", impl.ProgText(p), inputs, end.Line, kind, showReport(out))
	}
	return end.Code
}

func someInputs(r *rand.Rand) []int64 {
	inputs := make([]int64, r.Intn(8))
	for i := range inputs {
		inputs[i] = r.Int63n(60) - 30
	}
	return inputs
}

// Promise 11, of whatever inputs.
func TestRowsHaveWhateverRunsComeTo(t *testing.T) {
	r := rand.New(rand.NewSource(112))
	kinds, codes, ends, alarms := map[int64]int{}, map[int64]int{}, map[int64]int{}, map[int64]int{}
	for i := range 700 {
		p := progOf(t, loopySource(r))
		if i%3 == 0 {
			p = likelyProg(r)
		}
		c := impl.Config{Delay: r.Int63n(11), Narrow: r.Int63n(6), Passes: 25 + r.Int63n(16)}
		if i%2 == 0 {
			c.Delay = r.Int63n(3)
		}
		if i%5 == 0 {
			c.Passes = 1 + r.Int63n(6)
		}
		out := checkReport(t, p, c)
		codes[out.Code]++
		if out.Code != impl.AnOk {
			continue
		}
		for _, l := range p.Lines {
			kinds[l.Kind]++
		}
		for _, a := range out.Alarms {
			alarms[a.Kind]++
		}
		for range 12 {
			ends[checkCovers(t, p, out, someInputs(r), 120)]++
		}
	}
	for kind := range int64(14) {
		if kinds[kind+1] < 100 {
			t.Error("kind", kind+1, kinds[kind+1])
		}
	}
	for _, code := range []int64{impl.RnOk, impl.RnFuel, impl.RnAssume, impl.RnDiv, impl.RnBounds, impl.RnOver, impl.RnAssert} {
		if ends[code] < 20 {
			t.Error("end", code, ends[code])
		}
	}
	for _, kind := range []int64{impl.AlDiv, impl.AlBounds, impl.AlOver, impl.AlAssert} {
		if alarms[kind] < 15 {
			t.Error("alarm", kind, alarms[kind])
		}
	}
	if codes[impl.AnOk] < 400 || codes[impl.AnBudget] < 10 {
		t.Error("codes", codes)
	}
}

// Promise 11, of rows that are narrowed once more.
func TestNarrowedRowsHaveNoMore(t *testing.T) {
	r := rand.New(rand.NewSource(113))
	less, gone, quiet, same := 0, 0, 0, 0
	for range 500 {
		p := progOf(t, loopySource(r))
		delay := r.Int63n(4)
		before := impl.AnalyzeProg(p, settle(delay, 0))
		for narrow := int64(1); narrow <= 5; narrow++ {
			out := impl.AnalyzeProg(p, settle(delay, narrow))
			if out.Code != before.Code || out.Passes != before.Passes || !lessOrEven(p.D, out.Rows, before.Rows) {
				t.Fatalf("%s%d %d: %s, and once less %s", impl.ProgText(p), delay, narrow, showReport(out), showReport(before))
			}
			if out.Code != impl.AnOk {
				break
			}
			if sameRows(out.Rows, before.Rows) {
				same++
			} else {
				less++
			}
			for i, row := range out.Rows {
				if len(row.Parts) == 0 && len(before.Rows[i].Parts) > 0 {
					gone++
				}
			}
			if len(out.Alarms) < len(before.Alarms) {
				quiet++
			}
			before = out
		}
	}
	if less < 50 || gone < 5 || quiet < 5 || same < 50 {
		t.Error("less, gone, quiet, same:", less, gone, quiet, same)
	}
}

// surely is a program of which each run is the same: no arrays, no loops, each input is one number.
func surely(p impl.Prog) impl.Prog {
	plain := func(l []impl.Tok) []impl.Tok {
		l = slices.Clone(l)
		for i := range l {
			if l[i].Op == impl.TkAt {
				l[i] = impl.Tok{Op: impl.TkNeg}
			}
		}
		return l
	}
	q := impl.Prog{D: p.D}
	q.D.Arrays = nil
	for _, l := range p.Lines {
		l.I, l.E = nil, plain(l.E)
		switch l.Kind {
		case impl.LnStore:
			l = impl.Line{Kind: impl.LnSet, V: l.V, E: l.E}
		case impl.LnWhile:
			l.Kind = impl.LnIf
		case impl.LnUnroll:
			l = impl.Line{Kind: impl.LnFork, E: l.E}
		case impl.LnInput:
			l.Hi = l.Lo
		}
		q.Lines = append(q.Lines, l)
	}
	return q
}

// oneStore is the Part that has this alone.
func oneStore(s impl.Snap) impl.Part {
	e := impl.Env{Live: true}
	for _, n := range s.Store.Ints {
		e.Ints = append(e.Ints, iv(n, n))
	}
	table := make([]impl.Env, 1<<len(s.Store.Flags))
	table[leafIn(s.Store)] = e
	return impl.Part{Token: s.Token, Table: table}
}

// Promise 11, of programs that do just one thing.
func TestJustTheOneStore(t *testing.T) {
	r := rand.New(rand.NewSource(114))
	ends, lengths := map[int64]int{}, map[int]int{}
	for i := range 3000 {
		p := surely(someProg(r))
		if i%2 == 0 {
			p = surely(likelyProg(r))
		}
		if !impl.ProgOk(p) {
			t.Fatal(p)
		}
		c := impl.Config{Delay: r.Int63n(11), Narrow: r.Int63n(6), Passes: 2 + r.Int63n(39)}
		out := impl.AnalyzeProg(p, c)
		end := impl.Run(p, nil, 2000)
		ends[end.Code]++
		want := impl.Report{Rows: make([]impl.Row, len(p.Lines)+1), Passes: 2}
		if end.Steps == 0 || end.Steps == 1 && end.Code != impl.RnOk {
			want.Passes = 1
		}
		for _, s := range impl.Trace(p, nil, 2000) {
			want.Rows[s.Line].Parts = []impl.Part{oneStore(s)}
			lengths[len(s.Token)]++
		}
		if kind := alarmOfRun(end.Code); kind != 0 {
			want.Alarms = []impl.Alarm{{Line: end.Line, Kind: kind}}
		}
		if !sameReport(out, want) {
			t.Fatalf("%s%v: %s, not %s", impl.ProgText(p), c, showReport(out), showReport(want))
		}
	}
	for _, code := range []int64{impl.RnOk, impl.RnAssume, impl.RnDiv, impl.RnOver, impl.RnAssert} {
		if ends[code] < 20 {
			t.Error("end", code, ends[code])
		}
	}
	for many := range 4 {
		if lengths[many] < 20 {
			t.Error("tokens of", many, lengths[many])
		}
	}
}

// No edge of any line goes to that line itself; those of the ends of loops go back, and no others.
func TestWhichEdgesGoBack(t *testing.T) {
	r := rand.New(rand.NewSource(115))
	back, on := 0, 0
	for range 300 {
		p := progOf(t, loopySource(r))
		for at, l := range p.Lines {
			for _, e := range impl.Flow(p, int64(at), impl.Start(p)).Edges {
				switch {
				case e.To > int64(at):
					on++
				case e.To < int64(at) && l.Kind == impl.LnEnd:
					back++
				default:
					t.Fatal(impl.ProgText(p), at, e.To)
				}
			}
		}
	}
	if back < 100 || on < 1000 {
		t.Error(back, on)
	}
}

func TestReportsOfWhatIsWrong(t *testing.T) {
	for _, p := range wrongProgs(t) {
		if l := impl.StepsOf(p); len(l) != 0 {
			t.Error(p, l)
		}
		for _, c := range []impl.Config{settle(0, 0), settle(10, 5), {Passes: 1}, {}, {Delay: 11, Passes: 40}} {
			if out := impl.AnalyzeProg(p, c); showReport(out) != noReport(impl.AnForm, 0) {
				t.Error(p, c, showReport(out))
			}
		}
	}
	if out := impl.AnalyzeProg(progOf(t, wrongSource), settle(0, 0)); out.Code != impl.AnOk {
		t.Error(showReport(out))
	}
}

// Promise 15, of this chapter.
func TestReportsShareNothing(t *testing.T) {
	r := rand.New(rand.NewSource(116))
	for i := range 60 {
		p := progOf(t, loopySource(r))
		if i%3 == 0 {
			p = likelyProg(r)
		}
		roomy := withRoom(p)
		checkNew(t, func() []int64 { return impl.StepsOf(roomy) }, roomy)
		for narrow := range int64(3) {
			c := settle(r.Int63n(3), narrow)
			checkNew(t, func() impl.Report { return impl.AnalyzeProg(roomy, c) }, roomy)
			if src := impl.ProgText(p); len(src) <= 4000 {
				checkNew(t, func() impl.Report { return impl.Analyze(src, c) })
			}
		}
	}
	roomy := withRoom(manySteps(100))
	checkNew(t, func() []int64 { return impl.StepsOf(roomy) }, roomy)
}
