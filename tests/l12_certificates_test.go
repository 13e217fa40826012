package tests

import (
	"fmt"
	"math/rand"
	"runtime"
	"slices"
	"strings"
	"sync"
	"testing"

	"loop.example/g00719/impl"
)

// showRows shows Parts as showParts does.
func showRows(rows []impl.Row) string {
	var l []string
	for _, row := range rows {
		if len(row.Parts) == 0 {
			l = append(l, "none")
			continue
		}
		l = append(l, showParts(row.Parts))
	}
	return strings.Join(l, "; ")
}

// rowsIn are those that showRows shows so.
func rowsIn(t *testing.T, d impl.Decl, s string) []impl.Row {
	t.Helper()
	var rows []impl.Row
	for _, text := range strings.Split(s, "; ") {
		var row impl.Row
		if text != "none" {
			row.Parts = partsIn(t, d, text)
		}
		rows = append(rows, row)
	}
	return rows
}

func copyRows(rows []impl.Row) []impl.Row {
	var l []impl.Row
	for _, row := range rows {
		var parts []impl.Part
		for _, p := range row.Parts {
			parts = append(parts, impl.Part{Token: slices.Clone(p.Token), Table: copyTable(p.Table)})
		}
		l = append(l, impl.Row{Parts: parts})
	}
	return l
}

func plainRowsOk(p impl.Prog, rows []impl.Row) bool {
	if !impl.ProgOk(p) || len(rows) != len(p.Lines)+1 {
		return false
	}
	for _, row := range rows {
		if !impl.PartsOk(p.D, row.Parts) {
			return false
		}
	}
	return true
}

// plainCertified goes line by line.
func plainCertified(p impl.Prog, rows []impl.Row) bool {
	if !plainRowsOk(p, rows) || !plainLeq(p.D, impl.Start(p), rows[0].Parts) {
		return false
	}
	for at := range p.Lines {
		f := plainFlow(p, int64(at), rows[at].Parts)
		if f.Full {
			return false
		}
		for _, e := range f.Edges {
			if !plainLeq(p.D, e.Parts, rows[e.To].Parts) {
				return false
			}
		}
	}
	return true
}

func plainAlarmsOf(p impl.Prog, rows []impl.Row) []impl.Alarm {
	if !plainRowsOk(p, rows) {
		return nil
	}
	var l []impl.Alarm
	for at := range p.Lines {
		alarms := plainFlow(p, int64(at), rows[at].Parts).Alarms
		for kind := int64(1); kind <= 8; kind *= 2 {
			if alarms/kind%2 == 1 {
				l = append(l, impl.Alarm{Line: int64(at), Kind: kind})
			}
		}
	}
	return l
}

// checkRows tells whether they are certified.
func checkRows(t *testing.T, p impl.Prog, rows []impl.Row) bool {
	t.Helper()
	ok, want := impl.Certified(p, rows), plainCertified(p, rows)
	if ok != want {
		t.Fatalf("%s%s: %v", impl.ProgText(p), showRows(rows), ok)
	}
	if l, want := impl.AlarmsOf(p, rows), plainAlarmsOf(p, rows); !slices.Equal(l, want) {
		t.Fatalf("%s%s: %v, not %v", impl.ProgText(p), showRows(rows), l, want)
	}
	return ok
}

// plainCovers is told of a Snap of a row that is there.
func plainCovers(p impl.Prog, rows []impl.Row, s impl.Snap) bool {
	l := rows[s.Line].Parts
	return impl.ProgOk(p) && impl.PartsOk(p.D, l) && impl.TableHas(p.D, tableIn(l, s.Token), s.Store)
}

// checkRuns: whether rows have all that some runs come to, and their alarms all that goes wrong.
func checkRuns(t *testing.T, r *rand.Rand, p impl.Prog, rows []impl.Row, many int, ends map[int64]int) bool {
	t.Helper()
	all := true
	alarms := impl.AlarmsOf(p, rows)
	for range many {
		inputs := someInputs(r)
		for _, s := range impl.Trace(p, inputs, 80) {
			has := impl.Covers(p, rows, s)
			if has != plainCovers(p, rows, s) {
				t.Fatalf("%s%s: %v: %v", impl.ProgText(p), showRows(rows), s, has)
			}
			all = all && has
		}
		end := impl.Run(p, inputs, 80)
		if kind := alarmOfRun(end.Code); kind != 0 {
			all = all && slices.Contains(alarms, impl.Alarm{Line: end.Line, Kind: kind})
		}
		ends[end.Code]++
	}
	return all
}

func someLoopyProg(t *testing.T, r *rand.Rand) impl.Prog {
	t.Helper()
	switch r.Intn(4) {
	case 0:
		return likelyProg(r)
	case 1:
		return someProg(r)
	}
	return progOf(t, loopySource(r))
}

// Promise 12: what an analysis tells is certified, and so are its alarms.
func TestReportsAreCertified(t *testing.T) {
	r := rand.New(rand.NewSource(120))
	kinds, ends, narrowed, told := map[int64]int{}, map[int64]int{}, map[int64]int{}, 0
	for range 300 {
		p := someLoopyProg(t, r)
		c := impl.Config{Delay: r.Int63n(4), Narrow: r.Int63n(6), Passes: 15 + r.Int63n(26)}
		out := impl.AnalyzeProg(p, c)
		if out.Code != impl.AnOk {
			continue
		}
		narrowed[c.Narrow]++
		told += len(out.Alarms)
		for _, l := range p.Lines {
			kinds[l.Kind]++
		}
		if !checkRows(t, p, out.Rows) {
			t.Fatalf("%s%v: %s", impl.ProgText(p), c, showReport(out))
		}
		if l := impl.AlarmsOf(p, out.Rows); !slices.Equal(l, out.Alarms) {
			t.Fatalf("%s%v: %v, not %v", impl.ProgText(p), c, l, out.Alarms)
		}
		if !checkRuns(t, r, p, out.Rows, 4, ends) {
			t.Fatalf("%s%v: %s", impl.ProgText(p), c, showReport(out))
		}
	}
	for kind := range int64(14) {
		if kinds[kind+1] < 50 {
			t.Error("kind", kind+1, kinds[kind+1])
		}
	}
	for code := range int64(8) {
		if code != impl.RnForm && ends[code] < 10 {
			t.Error("end", code, ends[code])
		}
	}
	for narrow := range int64(6) {
		if narrowed[narrow] < 30 {
			t.Error("narrow", narrow, narrowed[narrow])
		}
	}
	if told < 100 {
		t.Error("alarms", told)
	}
}

// anyParts are right ones of any declaration; lines are how many its program has.
func anyParts(r *rand.Rand, d impl.Decl, lines, most int) []impl.Part {
	var l []impl.Part
	for range r.Intn(most + 1) {
		var p impl.Part
		for range r.Intn(4) {
			p.Token = append(p.Token, impl.Entry{Line: r.Int63n(int64(max(lines, 1))), Pick: r.Int63n(5)})
		}
		if tableIn(l, p.Token) != nil {
			continue
		}
		p.Table = make([]impl.Env, 1<<len(d.Flags))
		first := r.Intn(len(p.Table))
		for i := range p.Table {
			if i == first || r.Intn(3) == 0 {
				p.Table[i] = anyBounds(r, d)
			}
		}
		l = append(l, p)
	}
	slices.SortFunc(l, func(a, b impl.Part) int { return strings.Compare(plainOrder(a.Token), plainOrder(b.Token)) })
	return l
}

func anyBounds(r *rand.Rand, d impl.Decl) impl.Env {
	few := intervalsOf(fewNumbers())
	some := func(many int) []impl.Interval {
		var l []impl.Interval
		for range many {
			if r.Intn(6) == 0 {
				l = append(l, few[r.Intn(len(few))])
				continue
			}
			lo := r.Int63n(14) - 5
			l = append(l, iv(lo, lo+r.Int63n(6)))
		}
		return l
	}
	return impl.Env{Live: true, Ints: some(len(d.Vars)), Arrs: some(len(d.Arrays))}
}

// closedRows have all that comes to them from what they have; none when that would be too many Parts.
func closedRows(p impl.Prog, rows []impl.Row) []impl.Row {
	rows = copyRows(rows)
	for changed := true; changed; {
		changed = false
		edges := []impl.Edge{{To: 0, Parts: impl.Start(p)}}
		for at := range p.Lines {
			f := impl.Flow(p, int64(at), rows[at].Parts)
			if f.Full {
				return nil
			}
			edges = append(edges, f.Edges...)
		}
		for _, e := range edges {
			if plainLeq(p.D, e.Parts, rows[e.To].Parts) {
				continue
			}
			both, fits := plainRaised(p.D, rows[e.To].Parts, e.Parts, true, nil)
			if !fits {
				return nil
			}
			rows[e.To].Parts, changed = both, true
		}
	}
	return rows
}

// Promise 12, of rows that no engine made.
func TestRowsOfAnyoneThatAreCertified(t *testing.T) {
	r := rand.New(rand.NewSource(121))
	ends, more, own := map[int64]int{}, 0, 0
	for i := range 200 {
		p := someLoopyProg(t, r)
		rows := make([]impl.Row, len(p.Lines)+1)
		out := impl.AnalyzeProg(p, settle(1, 2))
		wide := i%2 == 0 && out.Code == impl.AnOk
		if wide {
			rows = copyRows(out.Rows)
		}
		for range 1 + r.Intn(4) {
			at := r.Intn(len(rows))
			rows[at].Parts, _ = plainRaised(p.D, rows[at].Parts, anyParts(r, p.D, len(p.Lines), 3), false, nil)
		}
		rows = closedRows(p, rows)
		if rows == nil {
			continue
		}
		if !checkRows(t, p, rows) || !checkRuns(t, r, p, rows, 4, ends) {
			t.Fatalf("%s%s", impl.ProgText(p), showRows(rows))
		}
		switch {
		case wide && !lessOrEven(p.D, out.Rows, rows):
			t.Fatalf("%s%s, within %s", impl.ProgText(p), showRows(rows), showReport(out))
		case wide && !sameRows(out.Rows, rows):
			more++
		case !wide:
			own++
		}
	}
	if more < 60 || own < 60 || ends[impl.RnOk] < 100 || ends[impl.RnFuel] < 30 || ends[impl.RnAssert] < 20 || ends[impl.RnDiv] < 20 {
		t.Error(more, own, ends)
	}
}

// lessBy goes through all rows that have one thing less: a number, a leaf, a Part, all of a row.
func lessBy(rows []impl.Row, do func(what string, less []impl.Row)) {
	change := func(what string, at int, how func(row *impl.Row)) {
		less := copyRows(rows)
		how(&less[at])
		do(fmt.Sprint(what, " of row ", at), less)
	}
	for at, row := range rows {
		if len(row.Parts) > 0 {
			change("all", at, func(row *impl.Row) { row.Parts = nil })
		}
		for i, p := range row.Parts {
			change("a token", at, func(row *impl.Row) { row.Parts = slices.Delete(row.Parts, i, i+1) })
			for leaf, e := range p.Table {
				if !e.Live {
					continue
				}
				change("a leaf", at, func(row *impl.Row) {
					row.Parts[i].Table[leaf] = impl.Env{}
					if !slices.ContainsFunc(row.Parts[i].Table, func(e impl.Env) bool { return e.Live }) {
						row.Parts = slices.Delete(row.Parts, i, i+1)
					}
				})
				for n, a := range slices.Concat(e.Ints, e.Arrs) {
					if a.Lo == a.Hi {
						continue
					}
					for _, less := range []impl.Interval{{Lo: a.Lo + 1, Hi: a.Hi}, {Lo: a.Lo, Hi: a.Hi - 1}} {
						change("a number", at, func(row *impl.Row) {
							e := &row.Parts[i].Table[leaf]
							if n < len(e.Ints) {
								e.Ints[n] = less
							} else {
								e.Arrs[n-len(e.Ints)] = less
							}
						})
					}
				}
			}
		}
	}
}

// Promise 12: rows that are no more than what comes to them lack something, whatever is taken from them.
func TestRowsThatLackSomething(t *testing.T) {
	r := rand.New(rand.NewSource(122))
	whats, kinds, loops, lacking := map[string]int{}, map[int64]int{}, 0, 0
	for range 80 {
		p := someLoopyProg(t, r)
		out := impl.AnalyzeProg(p, settle(r.Int63n(4), 5))
		if out.Code != impl.AnOk || !sameRows(plainNarrowed(p, out.Rows), out.Rows) {
			continue
		}
		if slices.ContainsFunc(p.Lines, func(l impl.Line) bool { return l.Kind == impl.LnWhile || l.Kind == impl.LnUnroll }) {
			loops++
		}
		many := 0
		lessBy(out.Rows, func(what string, less []impl.Row) {
			if many++; many > 150 {
				return
			}
			if impl.Certified(p, less) || !plainRowsOk(p, less) {
				t.Fatalf("%swithout %s: %s", impl.ProgText(p), what, showRows(less))
			}
			whats[what[:strings.Index(what, " of ")]]++
			if many%40 == 1 && !checkRuns(t, r, p, less, 3, map[int64]int{}) {
				lacking++
			}
			if many%20 == 1 {
				checkRows(t, p, less)
			}
		})
		for _, l := range p.Lines {
			kinds[l.Kind]++
		}
	}
	for _, what := range []string{"all", "a token", "a leaf", "a number"} {
		if whats[what] < 200 {
			t.Error(what, whats[what])
		}
	}
	for kind := range int64(14) {
		if kinds[kind+1] < 20 {
			t.Error("kind", kind+1, kinds[kind+1])
		}
	}
	if loops < 20 || lacking < 20 {
		t.Error("loops, lacking:", loops, lacking)
	}
}

// Promise 12, the other way round: rows that lack what a run comes to are not certified.
func TestRowsThatRunsLeave(t *testing.T) {
	r := rand.New(rand.NewSource(123))
	yes, no := 0, 0
	for range 250 {
		p := someLoopyProg(t, r)
		out := impl.AnalyzeProg(p, settle(0, r.Int63n(2)))
		if out.Code != impl.AnOk {
			continue
		}
		rows := copyRows(out.Rows)
		for range 1 + r.Intn(3) {
			at := r.Intn(len(rows))
			rows[at].Parts = anyParts(r, p.D, len(p.Lines), 2)
			if r.Intn(2) == 0 {
				rows[at].Parts, _ = plainRaised(p.D, rows[at].Parts, out.Rows[at].Parts, false, nil)
			}
		}
		ok := checkRows(t, p, rows)
		if ok {
			yes++
		} else {
			no++
		}
		if !checkRuns(t, r, p, rows, 4, map[int64]int{}) && ok {
			t.Fatalf("%s%s", impl.ProgText(p), showRows(rows))
		}
	}
	if yes < 30 || no < 100 {
		t.Error(yes, no)
	}
}

func TestRowsByHand(t *testing.T) {
	type change struct {
		at   int
		row  string
		want bool
	}
	for _, r := range []struct {
		src, rows string
		changes   []change
	}{
		// Nothing goes on from the end.
		{"var x\n", "- {0}", []change{{0, "- {-9..9}", true}, {0, "- {0} / 3:1 {5}", true}, {0, "none", false}, {0, "- {1..9}", false}, {0, "3:1 {0}", false}}},
		{"var x\nflag b\n", "- {0 .}", []change{{0, "- {0 0}", true}, {0, "- {. 0}", false}, {0, "- {-1 .}", false}}},
		// An edge that goes on, one that goes back, one to the end.
		{"var x\nwhile x < 3\nx = x + 1\nend\n", "- {0..3}; - {0..2}; - {1..3}; - {3}", []change{
			{0, "none", false}, {0, "- {1..3}", false}, {0, "- {0..2}", false}, {0, "- {0..4}", false}, {0, "- {-1..3}", false},
			{1, "none", false}, {1, "- {1..2}", false}, {1, "- {0..1}", false}, {1, "- {0..3}", false}, {1, "- {-1..2}", false},
			{2, "none", false}, {2, "- {2..3}", false}, {2, "- {1..2}", false}, {2, "- {0..3}", true}, {2, "- {1..4}", false}, {2, "- {-1..3}", false}, {2, "- {1..3} / 0:1 {1}", false},
			{3, "none", false}, {3, "- {4}", false}, {3, "- {-9..3}", true}, {3, "- {3} / 0:1 {1}", true}, {3, "0:1 {3}", false},
		}},
		{"var x\nwhile x < 3\nx = x + 1\nend\n", "- {0..9}; - {0..7}; - {1..9}; - {2..9}", []change{{0, "- {0..8}", false}, {0, "- {0..10}", false}, {3, "- {3..9}", true}, {3, "- {3..8}", false}, {2, "- {1..8}", true}, {2, "- {1..7}", false}, {1, "- {0..8}", true}, {1, "- {0..9}", false}, {1, "- {0..2}", true}}},
		{"var x\nunroll 1 x < 2\nx = x + 1\nend\n", "- {0} / 0:1 {1..2}; 0:1 {0..1}; 0:1 {1..2}; 0:1 {2}", []change{
			{0, "- {0..1} / 0:1 {1..2}", true}, {0, "- {0} / 0:1 {1}", false}, {0, "- {0}", false}, {0, "0:1 {1..2}", false}, {0, "- {0..2}", false}, {0, "- {0} / 0:0 {0} / 0:1 {1..2}", false},
			{1, "0:1 {0}", false}, {1, "0:1 {1}", false}, {1, "- {0..1}", false}, {1, "- {0..1} / 0:1 {0..1}", false}, {3, "0:1 {1..2}", true}, {3, "- {2}", false},
		}},
		// A flag's entry; both of one edge.
		{"var x\nflag b\nx = input 0 5\nb = x > 2\nmerge\n", "- {0 .}; - {0..5 .}; - {0..2 3..5}; - {0..2 3..5}", []change{
			{2, "- {0..2 .}", false}, {2, "- {. 3..5}", false}, {2, "- {0..5 .}", false}, {2, "- {3..5 0..2}", false}, {2, "- {0..2 4..5}", false}, {2, "- {0..3 3..5}", false},
			{3, "- {0..2 .}", false}, {3, "- {. 3..5}", false}, {3, "- {0..3 2..5}", true}, {1, "- {0..5 3}", true}, {1, "- {0..5 2}", true}, {1, "- {0..5 9}", false}, {1, "- {. 0..5}", false}, {0, "- {7 7}", false}, {0, "- {0..7 7}", false},
		}},
		// A token: of a fork, of a split; a merge has none.
		{"var x\nx = input 0 5\nfork x < 3\nx = 9\nend\n", "- {0}; - {0..5}; 1:1 {0..2}; 1:0 {3..5} / 1:1 {9}; 1:0 {3..5} / 1:1 {9}", []change{
			{2, "- {0..2}", false}, {2, "1:1 {0..9}", true}, {2, "1:0 {0..2} / 1:1 {0..2}", false}, {3, "1:0 {3..5}", false}, {3, "1:1 {9}", false}, {3, "- {3..9}", false}, {3, "1:0 {9} / 1:1 {3..5}", false},
			{4, "1:0 {3..5}", false}, {4, "1:1 {9}", false}, {4, "- {7} / 1:0 {3..9} / 1:1 {3..9}", true}, {4, "1:0 {4..5} / 1:1 {9}", false}, {4, "- {3..9}", false},
		}},
		{"var x\nx = input 0 5\nsplit x 1 2\nmerge\n", "- {0}; - {0..5}; 1:0 {1} / 1:1 {2} / 1:2 {0..5}; - {0..5}", []change{
			{2, "1:0 {1} / 1:1 {2}", false}, {2, "1:1 {2} / 1:2 {0..5}", false}, {2, "1:0 {1} / 1:1 {2} / 1:2 {1..5}", false}, {2, "1:0 {1} / 1:1 {2} / 1:2 {0..5} / 1:3 {0}", true}, {2, "1:0 {1} / 1:1 {2} / 1:2 {0..5} / 1:3 {6}", false}, {2, "- {0..5}", false}, {2, "1:0 {0..5} / 1:1 {0..5} / 1:2 {0..5}", true},
			{3, "1:0 {1} / 1:1 {2} / 1:2 {0..5}", false}, {3, "- {1..5}", false}, {3, "none", false}, {1, "- {0..5} / 2:2 {9}", false},
		}},
		// Two edges of one line: one alone lacks something.
		{"var x\nx = input 0 5\nif x < 3\nx = 1\nelse\nx = 2\nend\n", "- {0}; - {0..5}; - {0..2}; - {1}; - {3..5}; - {1..2}; - {1..2}", []change{
			{2, "- {0..1}", false}, {2, "none", false}, {4, "none", false}, {4, "- {3..4}", false}, {3, "none", false}, {5, "none", false}, {5, "- {1}", false}, {5, "- {2}", false}, {6, "- {1}", false}, {6, "- {2}", false}, {6, "none", false}, {2, "- {0..9}", true}, {4, "- {-9..9}", true}, {3, "- {0..1}", false},
		}},
		// Numbers of arrays; what goes wrong goes nowhere, and nobody minds.
		{"var x\narray a 2\nx = input 0 2\na[x] = 7\n", "- {0,0}; - {0..2,0}; - {0..2,0..7}", []change{{2, "- {0..2,1..7}", false}, {2, "- {0..2,0..6}", false}, {2, "- {0..1,0..7}", false}, {1, "- {0..2,-1..0}", false}, {1, "- {0..2,0..7}", true}, {0, "- {0,1..2}", false}}},
		{"var x\nx = 6 / x\nassert x > 9\n", "- {0}; none; none", []change{{1, "- {3}", true}, {1, "- {9..10}", false}, {2, "- {7}", true}, {0, "- {0..1}", false}, {0, "none", false}}},
		{"var x\nassume x > 0\nx = 6 / x\n", "- {0}; none; none", []change{{1, "- {0}", true}, {1, "- {1}", false}, {0, "- {0..1}", false}}},
	} {
		p := progOf(t, r.src)
		rows := rowsIn(t, p.D, r.rows)
		if !checkRows(t, p, rows) {
			t.Errorf("%s%s", r.src, r.rows)
		}
		for _, c := range r.changes {
			other := copyRows(rows)
			other[c.at] = rowsIn(t, p.D, c.row)[0]
			if checkRows(t, p, other) != c.want {
				t.Errorf("%s%s: not %v", r.src, showRows(other), c.want)
			}
		}
	}
}

// One line alone lacks something, whichever it is, and however many there are.
func TestRowsOfWhichOneLacksSomething(t *testing.T) {
	for _, many := range []int{1, 2, 15, 29, 30} {
		p := progOf(t, "var x\n"+strings.Repeat("x = x + 1\n", many))
		var rows []impl.Row
		for i := range many + 1 {
			rows = append(rows, rowsIn(t, p.D, fmt.Sprintf("- {%d..%d}", i, i+1))[0])
		}
		if !checkRows(t, p, rows) {
			t.Error(many)
		}
		for at := range rows {
			for _, a := range []impl.Interval{iv(int64(at), int64(at)), iv(int64(at)+1, int64(at)+1)} {
				less := copyRows(rows)
				less[at].Parts[0].Table[0].Ints[0] = a
				// Start itself needs no more than 0 of row 0.
				if checkRows(t, p, less) != (at == 0 && a.Lo == 0) {
					t.Error(many, at, a)
				}
			}
			less := copyRows(rows)
			less[at].Parts = nil
			if checkRows(t, p, less) {
				t.Error(many, at)
			}
		}
	}
}

func TestCertificatesOfProgramsWithoutLines(t *testing.T) {
	live := []impl.Part{{Table: []impl.Env{{Live: true}}}}
	if !checkRows(t, impl.Prog{}, []impl.Row{{Parts: live}}) || !checkRows(t, impl.Prog{}, []impl.Row{{Parts: impl.Start(impl.Prog{})}}) {
		t.Error("right ones")
	}
	for _, rows := range [][]impl.Row{nil, {}, {{}}, {{Parts: live}, {Parts: live}}, {{Parts: live}, {}}, {{Parts: []impl.Part{{Table: []impl.Env{{}}}}}}, {{Parts: []impl.Part{{Token: entries(0, 0), Table: live[0].Table}}}}, {{Parts: append(live, live...)}}} {
		if checkRows(t, impl.Prog{}, rows) {
			t.Error(rows)
		}
	}
}

func TestNumbersOfRows(t *testing.T) {
	for _, src := range []string{"var x\n", "var x\nx = 6 / x\n", "var x\nx = input 0 3\nx = 6 / x\nassert x > 2\n"} {
		p := progOf(t, src)
		right := impl.AnalyzeProg(p, settle(0, 1)).Rows
		for many := range len(right) + 40 {
			rows := copyRows(right)[:min(many, len(right))]
			for _, row := range []impl.Row{{}, {Parts: impl.Start(p)}} {
				for len(rows) < many {
					rows = append(rows, row)
				}
				if checkRows(t, p, rows) != (many == len(right)) || many != len(right) && len(impl.AlarmsOf(p, rows)) > 0 {
					t.Error(src, many)
				}
			}
		}
		if impl.Certified(p, make([]impl.Row, 100000)) || impl.Certified(p, nil) || len(impl.AlarmsOf(p, nil)) > 0 {
			t.Error(src)
		}
	}
}

// Parts that are not right in one row alone, wherever it stands.
func TestRowsThatAreNotRight(t *testing.T) {
	for flags := range 4 {
		p := progOf(t, "var x\nx = input 0 3\nx = 6 / x\nassert x > 2\n")
		p.D = flagDecl(flags)
		right := impl.AnalyzeProg(p, settle(0, 0)).Rows
		if !checkRows(t, p, right) || len(impl.AlarmsOf(p, right)) != 2 {
			t.Fatal(right)
		}
		for _, wrong := range wrongParts(flags) {
			for at := range right {
				rows := copyRows(right)
				rows[at].Parts = wrong
				if impl.Certified(p, rows) || len(impl.AlarmsOf(p, rows)) > 0 {
					t.Error(flags, at, wrong)
				}
			}
		}
		other := flagDecl((flags + 1) % 4)
		if impl.Certified(impl.Prog{D: other, Lines: p.Lines}, right) || len(impl.AlarmsOf(impl.Prog{D: other, Lines: p.Lines}, right)) > 0 {
			t.Error(flags)
		}
	}
}

func TestCertificatesOfFlowsThatAreFull(t *testing.T) {
	p := progOf(t, "var x\nx = 6 / x\nsplit x 0 3\nx = 6 / x\n")
	of := func(tokens [][]impl.Entry, lo, hi int64) impl.Row {
		return impl.Row{Parts: partsBy(tokens, []impl.Env{{Live: true, Ints: []impl.Interval{iv(lo, hi)}}})}
	}
	start := of([][]impl.Entry{nil}, 0, 0)
	for _, many := range []int{1, 24, 25, 26, 100} {
		row := of(rising(many), 0, 3)
		var split [][]impl.Entry
		for _, token := range rising(many) {
			for pick := range int64(4) {
				split = append(split, append(slices.Clone(token), impl.Entry{Line: 1, Pick: pick}))
			}
		}
		split = split[:min(len(split), 100)]
		rows := []impl.Row{start, row, of(split, 0, 3), of(split, 0, 6)}
		// Nobody comes to the line; still it must not be full.
		if checkRows(t, p, rows) != (many <= 25) {
			t.Error(many)
		}
		// What other lines tell they tell still.
		if l := impl.AlarmsOf(p, rows); !slices.Equal(l, []impl.Alarm{{Line: 0, Kind: impl.AlDiv}, {Line: 2, Kind: impl.AlDiv}}) {
			t.Error(many, l)
		}
		// Where nothing is behind it, nothing else is amiss.
		if checkRows(t, p, []impl.Row{start, row, {}, {}}) {
			t.Error(many)
		}
	}
	// As many as there may be, of a line that makes no more of them.
	p = progOf(t, "var x\nx = 6 / x\nsplit x 0 3\n")
	var far [][]impl.Entry
	for _, token := range rising(100) {
		far = append(far, append(slices.Clone(token), impl.Entry{Line: 1, Pick: 4}))
	}
	for _, many := range []int{0, 99, 100} {
		if checkRows(t, p, []impl.Row{start, of(rising(100), 7, 9), of(far[:many], 7, 9)}) != (many == 100) {
			t.Error(many)
		}
	}
}

// withoutTokens is p with lines that make no tokens in place of those that do.
func withoutTokens(p impl.Prog) impl.Prog {
	q := impl.Prog{D: p.D}
	for _, l := range p.Lines {
		switch l.Kind {
		case impl.LnFork:
			l.Kind = impl.LnIf
		case impl.LnUnroll:
			l = impl.Line{Kind: impl.LnWhile, E: l.E}
		case impl.LnSplit:
			l = impl.Line{Kind: impl.LnMerge}
		}
		q.Lines = append(q.Lines, l)
	}
	return q
}

// Rows of a program without tokens have what one with tokens comes to, once the entries are left out.
func TestRowsWithoutTokens(t *testing.T) {
	r := rand.New(rand.NewSource(124))
	lengths, wrong := map[int]int{}, 0
	for range 200 {
		p := someLoopyProg(t, r)
		q := withoutTokens(p)
		out := impl.AnalyzeProg(q, settle(r.Int63n(3), r.Int63n(3)))
		if out.Code != impl.AnOk {
			continue
		}
		if !checkRows(t, q, out.Rows) {
			t.Fatalf("%s%s", impl.ProgText(q), showReport(out))
		}
		for range 4 {
			inputs := someInputs(r)
			for _, s := range impl.Trace(p, inputs, 80) {
				lengths[len(s.Token)]++
				bare := s
				bare.Token = nil
				if !impl.Covers(q, out.Rows, bare) || !impl.Covers(p, out.Rows, bare) || impl.Covers(q, out.Rows, s) != (len(s.Token) == 0) {
					t.Fatalf("%s%v: %s", impl.ProgText(p), s, showReport(out))
				}
			}
			end := impl.Run(p, inputs, 80)
			if kind := alarmOfRun(end.Code); kind != 0 {
				wrong++
				if !slices.Contains(impl.AlarmsOf(q, out.Rows), impl.Alarm{Line: end.Line, Kind: kind}) {
					t.Fatalf("%s%v: %s", impl.ProgText(p), end, showReport(out))
				}
			}
		}
	}
	for many := range 4 {
		if lengths[many] < 200 {
			t.Error("tokens of", many, lengths[many])
		}
	}
	if wrong < 50 {
		t.Error("wrong ends", wrong)
	}
}

func TestWhatRowsCover(t *testing.T) {
	p := progOf(t, "var x\nflag b\narray a 2\nx = input 0 5\nb = x > 2\n")
	rows := rowsIn(t, p.D, "- {0,0 .}; - {0..5,0 .} / 0:1 {. 7,0..1}; none")
	store := func(x, first, second int64, b bool) impl.Store {
		return impl.Store{Ints: []int64{x}, Flags: []bool{b}, Arrs: [][]int64{{first, second}}}
	}
	for _, r := range []struct {
		s    impl.Snap
		want bool
	}{
		{impl.Snap{Store: store(0, 0, 0, false)}, true}, {impl.Snap{Store: store(0, 0, 0, true)}, false}, {impl.Snap{Store: store(1, 0, 0, false)}, false}, {impl.Snap{Store: store(0, 0, 1, false)}, false}, {impl.Snap{Token: entries(0, 1), Store: store(0, 0, 0, false)}, false},
		{impl.Snap{Line: 1, Store: store(5, 0, 0, false)}, true}, {impl.Snap{Line: 1, Store: store(6, 0, 0, false)}, false}, {impl.Snap{Line: 1, Store: store(-1, 0, 0, false)}, false}, {impl.Snap{Line: 1, Store: store(5, 0, 0, true)}, false},
		{impl.Snap{Line: 1, Token: []impl.Entry{}, Store: store(5, 0, 0, false)}, true},
		{impl.Snap{Line: 1, Token: entries(0, 1), Store: store(7, 0, 1, true)}, true}, {impl.Snap{Line: 1, Token: entries(0, 1), Store: store(7, 2, 1, true)}, false}, {impl.Snap{Line: 1, Token: entries(0, 1), Store: store(7, 0, 1, false)}, false}, {impl.Snap{Line: 1, Token: entries(0, 0), Store: store(7, 0, 1, true)}, false}, {impl.Snap{Line: 1, Token: entries(0, 1, 0, 1), Store: store(7, 0, 1, true)}, false}, {impl.Snap{Line: 1, Store: store(7, 0, 1, true)}, false},
		// A row of no Parts.
		{impl.Snap{Line: 2, Store: store(0, 0, 0, false)}, false}, {impl.Snap{Line: 2, Store: store(0, 0, 0, true)}, false},
	} {
		if impl.Covers(p, rows, r.s) != r.want || plainCovers(p, rows, r.s) != r.want {
			t.Error(r)
		}
	}
	for _, token := range wrongTokens() {
		if impl.Covers(p, rows, impl.Snap{Line: 1, Token: token, Store: store(5, 0, 0, false)}) || impl.Covers(p, rows, impl.Snap{Line: 1, Token: append(entries(0, 1), token...), Store: store(7, 0, 1, true)}) {
			t.Error(token)
		}
	}
	for _, s := range []impl.Store{{}, {Ints: []int64{0}}, {Ints: []int64{0}, Flags: []bool{false}}, {Ints: []int64{0, 0}, Flags: []bool{false}, Arrs: [][]int64{{0, 0}}}, {Ints: []int64{0}, Flags: []bool{false, false}, Arrs: [][]int64{{0, 0}}}, {Ints: []int64{0}, Flags: []bool{false}, Arrs: [][]int64{{0}}}, {Ints: []int64{0}, Flags: []bool{false}, Arrs: [][]int64{{0, 0, 0}}}, {Ints: []int64{0}, Flags: []bool{false}, Arrs: [][]int64{{0, 0}, {0}}}, {Flags: []bool{false}, Arrs: [][]int64{{0, 0}}}} {
		for line := range int64(3) {
			if impl.Covers(p, rows, impl.Snap{Line: line, Store: s}) {
				t.Error(line, s)
			}
		}
	}
}

func TestLinesThatRowsCover(t *testing.T) {
	p := progOf(t, "var x\nx = 1\nmerge\n")
	wide := rowsIn(t, p.D, "- {-9..9}")[0]
	wrong := impl.Row{Parts: append(wide.Parts, wide.Parts...)}
	s := impl.Snap{Store: impl.Store{Ints: []int64{3}}}
	// Rows fewer or more than lines and one: only that of the Snap is asked for.
	for many := range 40 {
		rows := slices.Repeat([]impl.Row{wide}, many)
		for _, line := range []int64{low, -2, -1, 0, 1, 2, 3, 4, 29, 30, 31, int64(many) - 1, int64(many), int64(many) + 1, 1 << 32, top} {
			s.Line = line
			want := 0 <= line && line < int64(many)
			if impl.Covers(p, rows, s) != want {
				t.Error(many, line)
			}
			if !want {
				continue
			}
			others := slices.Repeat([]impl.Row{wrong}, many)
			if impl.Covers(p, others, s) {
				t.Error("not right", many, line)
			}
			others[line] = wide
			if !impl.Covers(p, others, s) {
				t.Error("others not right", many, line)
			}
		}
	}
	for flags := range 4 {
		d := flagDecl(flags)
		for _, wrong := range wrongParts(flags) {
			for _, token := range append(fewRisen(), entries(1, 1)) {
				if impl.Covers(impl.Prog{D: d}, []impl.Row{{Parts: wrong}}, impl.Snap{Token: token, Store: impl.StoreNew(d)}) {
					t.Error(flags, wrong)
				}
			}
		}
		right := impl.Row{Parts: partsBy(fewRisen(), liveTable(flags))}
		for _, token := range fewRisen() {
			if !impl.Covers(impl.Prog{D: d}, []impl.Row{right}, impl.Snap{Token: token, Store: impl.StoreNew(d)}) {
				t.Error(flags, token)
			}
		}
	}
}

func TestAlarmsOfRows(t *testing.T) {
	for _, r := range []struct {
		src, rows, want string
		certified       bool
	}{
		{"var x\n", "- {0}", "", true},
		{"var x\nx = 6 / x\n", "- {0}; none", " 0:1", true},
		{"var x\nx = 6 / x\n", "- {1}; none", "", false},
		{"var x\nx = 6 / x\n", "none; none", "", false},
		{"var x\nx = 6 / x\n", "- {0..1}; none", " 0:1", false},
		// Two and more of one line, by Kind; lines by Line.
		{"var x\narray a 2\na[x] = 6 / x\nassert x < 5\nx = x * " + most + " * x\nassert x / a[x] > 3\n", "- {0..9,0}; - {0..9,0}; - {0..9,0}; - {0..9,0}; none", " 0:1 0:2 1:8 2:4 3:1 3:2", false},
		{"var x\narray a 2\na[x] = 6 / x\nassert x < 5\nx = x * " + most + " * x\nassert x / a[x] > 3\n", "- {0..9,0}; - {0..4,0}; - {0..1,0}; - {0..9,0..1}; none", " 0:1 0:2 3:1 3:2 3:8", false},
		{"var x\narray a 2\na[x] = 6 / x\nassert x < 5\nx = x * " + most + " * x\nassert x / a[x] > 3\n", "- {1,0}; - {5,0}; - {9,0}; - {9,0..1}; none", " 1:8 2:4 3:2", false},
		{"var x\narray a 2\nassert a[x] + x * " + most + " * " + most + " / x > 2\n", "- {0..9,0}; none", " 0:1 0:2 0:4 0:8", false},
		// Of all Parts, and of all leaves.
		{"var x\nflag b\nassert 6 / x > 1\n", "- {1..3 .} / 0:0 {0 .} / 0:1 {. 5..6}; none", " 0:1 0:8", false},
		{"var x\nflag b\nassert 6 / x > 1\n", "- {1..3 0} / 0:0 {1 5}; none", " 0:1 0:8", false},
		{"var x\nflag b\nassert 6 / x > 1\n", "- {1..3 1} / 0:1 {2 .}; none", "", false},
		// The end tells nothing.
		{"var x\nx = 6 / x\n", "none; - {0}", "", false},
	} {
		p := progOf(t, r.src)
		rows := rowsIn(t, p.D, r.rows)
		text := ""
		for _, a := range impl.AlarmsOf(p, rows) {
			text += fmt.Sprintf(" %d:%d", a.Line, a.Kind)
		}
		if text != r.want || checkRows(t, p, rows) != r.certified {
			t.Errorf("%s%s:%s, not%s", r.src, r.rows, text, r.want)
		}
	}
	// Rows that are right, and nothing more.
	r := rand.New(rand.NewSource(125))
	found, certified := map[int64]int{}, 0
	for range 400 {
		p := someLoopyProg(t, r)
		var rows []impl.Row
		for range len(p.Lines) + 1 {
			rows = append(rows, impl.Row{Parts: anyParts(r, p.D, len(p.Lines), 3)})
		}
		if checkRows(t, p, rows) {
			certified++
		}
		for _, a := range impl.AlarmsOf(p, rows) {
			found[a.Kind]++
		}
	}
	for _, kind := range []int64{impl.AlDiv, impl.AlBounds, impl.AlOver, impl.AlAssert} {
		if found[kind] < 30 {
			t.Error("alarm", kind, found[kind])
		}
	}
	if certified > 20 {
		t.Error("certified", certified)
	}
}

func TestCertificatesOfWrongProgs(t *testing.T) {
	p := progOf(t, wrongSource)
	out := impl.AnalyzeProg(p, settle(0, 0))
	s := impl.Snap{Store: impl.StoreNew(p.D)}
	if !checkRows(t, p, out.Rows) || !impl.Covers(p, out.Rows, s) {
		t.Fatal(showReport(out))
	}
	dividing := progOf(t, "var x\nx = 6 / x\n")
	for _, w := range wrongProgs(t) {
		for many := range 34 {
			rows := slices.Repeat([]impl.Row{out.Rows[0]}, many)
			if many == len(out.Rows) {
				rows = out.Rows
			}
			if impl.Certified(w, rows) || len(impl.AlarmsOf(w, rows)) > 0 || impl.Covers(w, rows, s) {
				t.Error(w, many)
			}
			w := impl.Prog{D: w.D, Lines: dividing.Lines}
			rows = slices.Repeat([]impl.Row{{}}, many)
			if impl.Certified(w, rows) || len(impl.AlarmsOf(w, rows)) > 0 || impl.Covers(w, rows, s) {
				t.Error(w, many)
			}
		}
	}
	for _, d := range wrongDecls() {
		live := impl.Env{Live: true, Ints: make([]impl.Interval, len(d.Vars)), Arrs: make([]impl.Interval, len(d.Arrays))}
		rows := []impl.Row{{Parts: []impl.Part{{Table: slices.Repeat([]impl.Env{live}, 1<<len(d.Flags))}}}}
		full := impl.Store{Ints: make([]int64, len(d.Vars)), Flags: make([]bool, len(d.Flags))}
		for _, a := range d.Arrays {
			full.Arrs = append(full.Arrs, make([]int64, a.Size))
		}
		w := impl.Prog{D: d}
		if impl.Certified(w, rows) || impl.Covers(w, rows, impl.Snap{Store: full}) || len(impl.AlarmsOf(w, rows)) > 0 || impl.Certified(w, []impl.Row{{}}) {
			t.Error(d)
		}
	}
}

// certificateCases are programs and rows, certified ones and others.
func certificateCases(t *testing.T, r *rand.Rand, many int) ([]impl.Prog, [][]impl.Row) {
	t.Helper()
	var progs []impl.Prog
	var rows [][]impl.Row
	for len(progs) < many {
		p := someLoopyProg(t, r)
		out := impl.AnalyzeProg(p, settle(r.Int63n(3), r.Int63n(3)))
		if out.Code != impl.AnOk {
			continue
		}
		l := copyRows(out.Rows)
		if len(progs)%2 == 0 {
			at := r.Intn(len(l))
			l[at].Parts = anyParts(r, p.D, len(p.Lines), 3)
		}
		progs, rows = append(progs, p), append(rows, l)
	}
	return progs, rows
}

// Promise 15, of this chapter.
func TestCertificatesShareNothing(t *testing.T) {
	r := rand.New(rand.NewSource(126))
	progs, all := certificateCases(t, r, 60)
	yes := 0
	for i, p := range progs {
		p, rows := withRoom(p), withRoom(all[i])
		checkNew(t, func() []impl.Alarm { return impl.AlarmsOf(p, rows) }, p, rows)
		checkNew(t, func() bool { return impl.Certified(p, rows) }, p, rows)
		if impl.Certified(p, rows) {
			yes++
		}
		for _, s := range impl.Trace(p, someInputs(r), 8) {
			s := withRoom(s)
			checkNew(t, func() bool { return impl.Covers(p, rows, s) }, p, rows, s)
		}
	}
	if yes < 20 || yes > 55 {
		t.Error(yes)
	}
	// Rows that share all they have with each other.
	p := progOf(t, "var x\nflag b\nmerge\nb = true\nx = 6 / (x - 2)\nx = 0\n")
	table := []impl.Env{{Live: true, Ints: []impl.Interval{iv(-9, 9)}}, {Live: true, Ints: []impl.Interval{iv(-9, 9)}}}
	shared := []impl.Part{{Table: table}, {Token: entries(1, 1), Table: table}}
	rows := slices.Repeat([]impl.Row{{Parts: shared}}, 5)
	before := image(rows)
	if !checkRows(t, p, rows) || image(rows) != before {
		t.Error(showRows(rows))
	}
	checkNew(t, func() []impl.Alarm { return impl.AlarmsOf(p, rows) }, p, rows)
}

// Promise 15: however the workers come about.
func TestCertificatesAreTheSameEachTime(t *testing.T) {
	defer runtime.GOMAXPROCS(runtime.GOMAXPROCS(0))
	progs, all := certificateCases(t, rand.New(rand.NewSource(127)), 12)
	for i, p := range progs {
		rows := all[i]
		want, alarms := plainCertified(p, rows), plainAlarmsOf(p, rows)
		for _, procs := range []int{1, 2, 8} {
			runtime.GOMAXPROCS(procs)
			for range 10 {
				if impl.Certified(p, rows) != want || !slices.Equal(impl.AlarmsOf(p, rows), alarms) {
					t.Fatalf("%s%s", impl.ProgText(p), showRows(rows))
				}
			}
			// Many ask at once, of the same rows.
			var asking sync.WaitGroup
			wrong := make([]bool, 8)
			for n := range wrong {
				asking.Go(func() {
					wrong[n] = impl.Certified(p, rows) != want || !slices.Equal(impl.AlarmsOf(p, rows), alarms)
				})
			}
			asking.Wait()
			if slices.Contains(wrong, true) {
				t.Fatalf("%s%s", impl.ProgText(p), showRows(rows))
			}
		}
	}
}

// No worker looks at anything any more when the call answers: the race detector would see what is written here.
func TestNoWorkerStays(t *testing.T) {
	src := "var x\nwhile x < 9\n" + strings.Repeat("x = x + 1\nx = x - 1\n", 13) + "x = x + 1\nend\n"
	p := withRoom(progOf(t, src))
	rows := copyRows(impl.AnalyzeProg(p, settle(10, 3)).Rows)
	for i := range 200 {
		at := i % len(rows)
		kept := rows[at].Parts[0].Table[0].Ints[0]
		rows[at].Parts[0].Table[0].Ints[0] = iv(100, 100)
		if impl.Certified(p, rows) {
			t.Fatal(i)
		}
		rows[at].Parts[0].Table[0].Ints[0] = kept
		p.Lines[1].E[0] = impl.Tok{Op: impl.TkNum, N: 100}
		if impl.Certified(p, rows) {
			t.Fatal(i)
		}
		p.Lines[1].E[0] = impl.Tok{Op: impl.TkVar}
		if !impl.Certified(p, rows) {
			t.Fatal(i)
		}
	}
}
