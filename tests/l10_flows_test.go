package tests

import (
	"fmt"
	"math/rand"
	"slices"
	"strconv"
	"strings"
	"testing"

	"loop.example/g00719/impl"
)

// showIv is lo..hi, or one number alone.
func showIv(a impl.Interval) string {
	if a.Lo == a.Hi {
		return fmt.Sprint(a.Lo)
	}
	return fmt.Sprintf("%d..%d", a.Lo, a.Hi)
}

// showParts is, for each Part, its token and, in braces, its leaves: a dot, or the intervals with commas.
func showParts(l []impl.Part) string {
	var parts []string
	for _, p := range l {
		var leaves []string
		for _, e := range p.Table {
			var all []string
			for _, a := range append(slices.Clone(e.Ints), e.Arrs...) {
				all = append(all, showIv(a))
			}
			if !e.Live {
				all = append(all, ".")
			}
			leaves = append(leaves, strings.Join(all, ","))
		}
		parts = append(parts, plainTokenText(p.Token)+" {"+strings.Join(leaves, " ")+"}")
	}
	return strings.Join(parts, " / ")
}

func showFlows(f impl.Flows) string {
	var edges []string
	for _, e := range f.Edges {
		edges = append(edges, fmt.Sprintf("%d: %s", e.To, showParts(e.Parts)))
	}
	text := strings.Join(edges, "; ")
	if f.Alarms != 0 {
		text += fmt.Sprint(" ! ", f.Alarms)
	}
	if f.Full {
		text += " full"
	}
	return strings.TrimSpace(text)
}

func readIv(s string) impl.Interval {
	lo, hi, two := strings.Cut(s, "..")
	if !two {
		hi = lo
	}
	from, _ := strconv.ParseInt(lo, 10, 64)
	to, _ := strconv.ParseInt(hi, 10, 64)
	return iv(from, to)
}

// partsIn are those that showParts shows so.
func partsIn(t *testing.T, d impl.Decl, s string) []impl.Part {
	t.Helper()
	var l []impl.Part
	for _, text := range strings.Split(s, " / ") {
		token, rest, _ := strings.Cut(text, " {")
		var p impl.Part
		for _, word := range strings.Fields(strings.TrimPrefix(token, "-")) {
			line, pick, _ := strings.Cut(word, ":")
			p.Token = append(p.Token, impl.Entry{Line: readIv(line).Lo, Pick: readIv(pick).Lo})
		}
		for _, leaf := range strings.Split(strings.TrimSuffix(rest, "}"), " ") {
			var e impl.Env
			if leaf != "." {
				e.Live = true
				for _, word := range strings.Split(leaf, ",") {
					e.Ints = append(e.Ints, readIv(word))
				}
				e.Ints, e.Arrs = e.Ints[:len(d.Vars)], e.Ints[len(d.Vars):]
			}
			p.Table = append(p.Table, e)
		}
		l = append(l, p)
	}
	if !impl.PartsOk(d, l) || showParts(l) != s {
		t.Fatalf("%q: %q", s, showParts(l))
	}
	return l
}

// arrival is what comes from one leaf of one Part; on is whether a truth is true.
type arrival struct {
	on    bool
	token []impl.Entry
	leaf  int
	e     impl.Env
}

func plainWith(token []impl.Entry, line, pick int64) []impl.Entry {
	if len(token) == 3 {
		return token
	}
	return append(slices.Clone(token), impl.Entry{Line: line, Pick: pick})
}

// plainToken is the token of a run behind a line; n is its truth, or what V is.
func plainToken(l impl.Line, at int64, token []impl.Entry, n int64) []impl.Entry {
	of := int64(0)
	for _, e := range token {
		if e.Line == at {
			of++
		}
	}
	switch {
	case l.Kind == impl.LnFork, l.Kind == impl.LnUnroll && n == 1 && of < l.Lo:
		return plainWith(token, at, n)
	case l.Kind == impl.LnSplit && l.Lo <= n && n <= l.Hi:
		return plainWith(token, at, n-l.Lo)
	case l.Kind == impl.LnSplit:
		return plainWith(token, at, l.Hi-l.Lo+1)
	case l.Kind == impl.LnMerge:
		return nil
	}
	return token
}

// arrivals of one leaf that is Live, as the document tells them line by line, and the alarms.
func arrivals(p impl.Prog, at int64, token []impl.Entry, leaf int, e impl.Env) ([]arrival, int64) {
	l, d := p.Lines[at], p.D
	var out []arrival
	var alarms int64
	value := func(of []impl.Tok) (impl.Interval, bool) {
		v := impl.ValOf(d, of, e, int64(leaf))
		alarms |= v.Alarms
		return v.Iv, v.Live
	}
	add := func(on bool, n int64, leaf int, e impl.Env) {
		if e.Live {
			out = append(out, arrival{on, plainToken(l, at, token, n), leaf, e})
		}
	}
	switch l.Kind {
	case impl.LnSet:
		if v, ok := value(l.E); ok {
			add(false, 0, leaf, impl.EnvSet(d, e, l.V, v))
		}
	case impl.LnStore:
		if i, ok := value(l.I); ok {
			if v, ok := value(l.E); ok {
				left, more := impl.EnvPut(d, e, l.V, i, v)
				alarms |= more
				add(false, 0, leaf, left)
			}
		}
	case impl.LnInput:
		add(false, 0, leaf, impl.EnvSet(d, e, l.V, iv(l.Lo, l.Hi)))
	case impl.LnAssert, impl.LnAssume:
		v, ok := value(l.E)
		if ok && l.Kind == impl.LnAssert && v.Lo == 0 {
			alarms |= impl.AlAssert
		}
		left, _ := impl.Guard(d, l.E, true, e, int64(leaf))
		add(false, 1, leaf, left)
	case impl.LnFlag:
		value(l.E)
		yes, _ := impl.Guard(d, l.E, true, e, int64(leaf))
		add(false, 1, leaf|1<<l.V, yes)
		no, _ := impl.Guard(d, l.E, false, e, int64(leaf))
		add(false, 0, leaf-leaf>>l.V&1<<l.V, no)
	case impl.LnIf, impl.LnFork, impl.LnWhile, impl.LnUnroll:
		value(l.E)
		yes, _ := impl.Guard(d, l.E, true, e, int64(leaf))
		add(true, 1, leaf, yes)
		no, _ := impl.Guard(d, l.E, false, e, int64(leaf))
		add(false, 0, leaf, no)
	case impl.LnSplit:
		for n := l.Lo; n <= l.Hi; n++ {
			if one, some := impl.IvMeet(e.Ints[l.V], iv(n, n)); some {
				add(false, n, leaf, impl.EnvSet(d, e, l.V, one))
			}
		}
		below, some := impl.IvMeet(e.Ints[l.V], iv(low, l.Lo-1))
		above, more := impl.IvMeet(e.Ints[l.V], iv(l.Hi+1, top))
		if some && more {
			below = impl.IvJoin(below, above)
		} else if more {
			below = above
		}
		if some || more {
			add(false, l.Hi+1, leaf, impl.EnvSet(d, e, l.V, below))
		}
	default:
		add(false, 0, leaf, e)
	}
	return out, alarms
}

// plainFlow is for a line and Parts that are right.
func plainFlow(p impl.Prog, at int64, l []impl.Part) impl.Flows {
	var out impl.Flows
	byToken := map[bool]map[string]impl.Part{true: {}, false: {}}
	for _, part := range l {
		for leaf, e := range part.Table {
			if !e.Live {
				continue
			}
			all, alarms := arrivals(p, at, part.Token, leaf, e)
			out.Alarms |= alarms
			for _, a := range all {
				key := plainOrder(a.token)
				if byToken[a.on][key].Table == nil {
					byToken[a.on][key] = impl.Part{Token: a.token, Table: make([]impl.Env, len(part.Table))}
				}
				table := byToken[a.on][key].Table
				table[a.leaf] = impl.EnvJoin(p.D, table[a.leaf], a.e)
			}
		}
	}
	for _, on := range []bool{true, false} {
		e := impl.Edge{To: impl.Targets(p)[at]}
		if on {
			e.To = at + 1
		}
		var keys []string
		for k := range byToken[on] {
			keys = append(keys, k)
		}
		slices.Sort(keys)
		for _, k := range keys {
			e.Parts = append(e.Parts, byToken[on][k])
		}
		if len(keys) > 100 {
			return impl.Flows{Full: true}
		}
		if len(keys) > 0 {
			out.Edges = append(out.Edges, e)
		}
	}
	return out
}

func sameFlows(a, b impl.Flows) bool {
	return a.Alarms == b.Alarms && a.Full == b.Full && slices.EqualFunc(a.Edges, b.Edges, func(x, y impl.Edge) bool { return x.To == y.To && sameParts(x.Parts, y.Parts) })
}

func checkFlow(t *testing.T, p impl.Prog, at int64, l []impl.Part) impl.Flows {
	t.Helper()
	f, want := impl.Flow(p, at, l), plainFlow(p, at, l)
	if !sameFlows(f, want) {
		t.Fatalf("%s%d: %s: %s, not %s", impl.ProgText(p), at, showParts(l), showFlows(f), showFlows(want))
	}
	for _, e := range f.Edges {
		if !impl.PartsOk(p.D, e.Parts) {
			t.Fatalf("%s%d: %s: not right: %s", impl.ProgText(p), at, showParts(l), showFlows(f))
		}
	}
	return f
}

type flowRow struct {
	lines string
	at    int64
	in    string
	out   string
}

func checkFlowRows(t *testing.T, head string, rows []flowRow) {
	t.Helper()
	for _, r := range rows {
		p := progOf(t, head+strings.ReplaceAll(r.lines, "; ", "\n")+"\n")
		if f := checkFlow(t, p, r.at, partsIn(t, p.D, r.in)); showFlows(f) != r.out {
			t.Errorf("%s, %d: %s: %s, not %s", r.lines, r.at, r.in, showFlows(f), r.out)
		}
	}
}

const most = "999999999999999999"

func TestFlowsOfNumbersAndFlags(t *testing.T) {
	checkFlowRows(t, "var x\nflag b\n", []flowRow{
		{"x = x + 1", 0, "- {0..3 .}", "1: - {1..4 .}"},
		{"x = x + 1", 0, "- {0..3 7}", "1: - {1..4 8}"},
		{"x = x + 1", 0, "- {. 7} / 3:1 {2 .}", "1: - {. 8} / 3:1 {3 .}"},
		{"merge; x = 5; merge", 1, "0:0 1:1 2:2 {0..3 1}", "2: 0:0 1:1 2:2 {5 5}"},
		{"x = 6 / x", 0, "- {0 2} / 0:0 {0..3 .}", "1: - {. 3} / 0:0 {2..6 .} ! 1"},
		{"x = 6 / x", 0, "- {0 .} / 0:0 {0 0}", "! 1"},
		{"x = 6 / x", 0, "- {1 .} / 0:0 {0 0}", "1: - {6 .} ! 1"},
		{"x = x + 1", 0, "- {0..9223372036854775807 .}", "1: - {1..9223372036854775807 .} ! 4"},
		{"x = x * x / (x - 2)", 0, "- {2 .} / 0:0 {0 9223372036854775807}", "1: 0:0 {0 .} ! 5"},

		{"b = x > 2", 0, "- {0..5 .}", "1: - {0..2 3..5}"},
		{"b = x > 2", 0, "- {. 0..5}", "1: - {0..2 3..5}"},
		{"b = x > 2", 0, "- {0..5 7..9}", "1: - {0..2 3..9}"},
		{"b = x > 2", 0, "- {-3..2 3}", "1: - {-3..2 3}"},
		{"b = x > 2", 0, "- {7 .} / 1:0 {. 2}", "1: - {. 7} / 1:0 {2 .}"},
		{"b = !b", 0, "- {1 2}", "1: - {2 1}"},
		{"b = b", 0, "- {1 2}", "1: - {1 2}"},
		{"b = true", 0, "- {1 4}", "1: - {. 1..4}"},
		{"b = false", 0, "- {1 4} / 1:0 {. 6}", "1: - {1..4 .} / 1:0 {6 .}"},
		{"b = 6 / x > 2", 0, "- {0 .}", "! 1"},
		{"b = 6 / x > 2", 0, "- {0 1}", "1: - {. 1} ! 1"},
		{"b = b & 6 / x > 2", 0, "- {0..1 .}", "1: - {0..1 .} ! 1"},

		{"x = input -2 5", 0, "- {9 .} / 1:1 {. 3}", "1: - {-2..5 .} / 1:1 {. -2..5}"},
		{"x = input 7 7", 0, "- {9 1..4}", "1: - {7 7}"},
	})
	checkFlowRows(t, "var x y\nflag b c f\n", []flowRow{
		{"f = y < 3", 0, "- {. 1,0..9 . . . . . 2,7}", "1: - {. 1,3..9 . 2,7 . 1,0..2 . .}"},
		{"c = y < 3", 0, "- {. 1,0..9 . . . . . 2,7}", "1: - {. 1,3..9 . 1,0..2 . 2,7 . .}"},
		{"b = c | f", 0, "- {0,0 1,1 2,2 3,3 4,4 5,5 6,6 7,7}", "1: - {0..1,0..1 . . 2..3,2..3 . 4..5,4..5 . 6..7,6..7}"},
		{"y = x - y", 0, "- {0..4,1 . . . . . . 2,7}", "1: - {0..4,-1..3 . . . . . . 2,-5}"},
	})
}

func TestFlowsOfArrays(t *testing.T) {
	checkFlowRows(t, "var x\narray a 3\n", []flowRow{
		{"a[x] = 7", 0, "- {0..2,0}", "1: - {0..2,0..7}"},
		{"a[x] = x - 4", 0, "- {1,3..5} / 2:0 {0..1,-2}", "1: - {1,-3..5} / 2:0 {0..1,-4..-2}"},
		{"a[x] = 7", 0, "- {2..5,0}", "1: - {2..5,0..7} ! 2"},
		{"a[x] = 7", 0, "- {-1..0,0}", "1: - {-1..0,0..7} ! 2"},
		{"a[x] = 7", 0, "- {3..5,0}", "! 2"},
		{"a[x] = 7", 0, "- {-1,0} / 0:0 {2,0}", "1: 0:0 {2,0..7} ! 2"},
		// I is not Live: nobody looks at E.
		{"a[6 / x] = " + most + " * " + most, 0, "- {0,0}", "! 1"},
		// E is not Live: nobody looks whether the place is none.
		{"a[x] = 6 / (x - 3)", 0, "- {3,0}", "! 1"},
		{"a[6 / x] = " + most + " * " + most, 0, "- {0..2,0}", "! 5"},
		{"a[6 / x] = 8 / x", 0, "- {0..2,0}", "! 3"},
		{"a[4 / x] = 8 / x", 0, "- {0..2,0}", "1: - {0..2,0..8} ! 3"},
		{"a[a[x]] = 9", 0, "- {0..4,1}", "1: - {0..4,1..9} ! 2"},
		{"x = a[x]", 0, "- {0..4,1..6}", "1: - {1..6,1..6} ! 2"},
	})
	checkFlowRows(t, "var x\nflag b\narray a 1\n", []flowRow{
		{"a[x] = 7", 0, "- {0..1,3 .}", "1: - {0..1,7 .} ! 2"},
		{"a[0] = a[0] + 1", 0, "- {5,3 .} / 1:1 {6,4..5 7,0}", "1: - {5,4 .} / 1:1 {6,5..6 7,1}"},
	})
}

func TestFlowsOfTruths(t *testing.T) {
	checkFlowRows(t, "var x\nflag b\n", []flowRow{
		{"if x < 3; end", 0, "- {0..5 .}", "1: - {0..2 .}; 1: - {3..5 .}"},
		{"if x < 3; x = 1; else; x = 2; end", 0, "- {0..5 1} / 0:0 {4 .}", "1: - {0..2 1}; 3: - {3..5 .} / 0:0 {4 .}"},
		{"if x < 3; x = 1; end", 0, "- {0..2 .}", "1: - {0..2 .}"},
		{"if x < 3; x = 1; end", 0, "- {3 .}", "2: - {3 .}"},
		{"if b; x = 1; end", 0, "- {3 4}", "1: - {. 4}; 2: - {3 .}"},
		{"if 6 / x > 2; x = 1; end", 0, "- {0 .} / 0:0 {0 0}", "! 1"},
		{"if 6 / x > 2; x = 1; end", 0, "- {0..9 .} / 0:0 {0 0} / 0:1 {2 6}", "1: - {0..9 .} / 0:1 {2 .}; 2: - {0..9 .} / 0:1 {. 6} ! 1"},
		{"if x < 3 & x > 4; x = 1; end", 0, "- {0..9 .}", "2: - {0..9 .}"},
		{"if x < 3 & x > 4; x = 1; end", 0, "- {0..4 .}", "2: - {0..4 .}"},
		{"x = 0; while x < 3; x = x + 1; end; x = 9", 1, "- {0..5 1}", "2: - {0..2 1}; 4: - {3..5 .}"},
		{"while x < 3; end", 0, "1:1 {0..5 .}", "1: 1:1 {0..2 .}; 2: 1:1 {3..5 .}"},
		{"while b; end; merge", 0, "- {0 .}", "2: - {0 .}"},

		{"if b; else; end", 1, "- {1 2} / 2:2 {3 .}", "2: - {1 2} / 2:2 {3 .}"},
		{"if b; else; x = 1; end", 1, "- {1 2}", "3: - {1 2}"},
		{"if b; else; x = 1; end", 3, "- {1 2}", "4: - {1 2}"},
		{"fork b; end", 1, "- {1 2} / 0:0 {3 .} / 0:1 {. 3}", "2: - {1 2} / 0:0 {3 .} / 0:1 {. 3}"},
		{"x = 1; while b; end", 2, "- {1 2}", "1: - {1 2}"},
		{"x = 1; unroll 2 b; x = 2; end", 3, "1:1 {1 2}", "1: 1:1 {1 2}"},

		{"assert x < 3", 0, "- {0..5 .}", "1: - {0..2 .} ! 8"},
		{"assert x < 3", 0, "- {0..2 .}", "1: - {0..2 .}"},
		{"assert x < 3", 0, "- {3..5 .}", "! 8"},
		{"assert 6 / x < 3", 0, "- {0 .}", "! 1"},
		{"assert 6 / x < 3", 0, "- {0..3 .}", "1: - {0..3 .} ! 9"},
		{"assert 6 / x < 3", 0, "- {0..1 .}", "! 9"},
		{"assert b", 0, "- {0 1} / 1:0 {. 2}", "1: - {. 1} / 1:0 {. 2} ! 8"},
		{"assert b", 0, "- {. 1} / 1:0 {. 2}", "1: - {. 1} / 1:0 {. 2}"},
		{"assert x < 3 | x > 3", 0, "- {0..5 .}", "1: - {0..5 .} ! 8"},
		{"assume x < 3", 0, "- {0..5 .}", "1: - {0..2 .}"},
		{"assume x < 3", 0, "- {3..5 9}", ""},
		{"assume 6 / x < 3", 0, "- {0 .} / 1:0 {0..1 .}", "! 1"},
		{"assume b", 0, "- {0 1} / 1:0 {2 .}", "1: - {. 1}"},
	})
}

func TestFlowsOfTokens(t *testing.T) {
	checkFlowRows(t, "var x\nflag b\n", []flowRow{
		{"fork x < 3; end", 0, "- {0..5 .}", "1: 0:1 {0..2 .}; 1: 0:0 {3..5 .}"},
		{"x = 1; fork x < 3; x = 1; else; end", 1, "- {0..5 9} / 0:0 {0 .} / 4:1 0:1 {9 .}", "2: 1:1 {0..2 .} / 0:0 1:1 {0 .}; 4: 1:0 {3..5 9} / 4:1 0:1 1:0 {9 .}"},
		// No room; and one that comes to a token that another has already.
		{"fork x < 3; x = 1; end", 0, "0:1 0:1 0:1 {0..5 .}", "1: 0:1 0:1 0:1 {0..2 .}; 2: 0:1 0:1 0:1 {3..5 .}"},
		{"fork x < 3; x = 1; end", 0, "4:4 4:4 {0..5 .} / 4:4 4:4 0:0 {8 .} / 4:4 4:4 0:1 {-2 7}", "1: 4:4 4:4 0:1 {-2..2 .}; 2: 4:4 4:4 0:0 {3..8 .} / 4:4 4:4 0:1 {. 7}"},
		{"fork 6 / x > 1; x = 1; end", 0, "- {0 .} / 1:0 {0..1 .}", "1: 1:0 0:1 {0..1 .} ! 1"},

		{"unroll 1 x < 3; x = 1; end", 0, "- {0..5 .}", "1: 0:1 {0..2 .}; 3: - {3..5 .}"},
		{"unroll 1 x < 3; x = 1; end", 0, "- {0..5 .} / 0:1 {1..4 .} / 1:1 {5 .}", "1: 0:1 {0..2 .}; 3: - {3..5 .} / 0:1 {3..4 .} / 1:1 {5 .}"},
		{"unroll 2 x < 3; x = 1; end", 0, "- {1 .} / 0:1 {2 .} / 0:1 0:1 {0 .} / 0:1 1:1 {1 .} / 0:1 0:1 0:1 {1 .}", "1: 0:1 {1 .} / 0:1 0:1 {0..2 .} / 0:1 0:1 0:1 {1 .} / 0:1 1:1 0:1 {1 .}"},
		{"unroll 3 x < 3; x = 1; end", 0, "0:0 0:4 {1 .} / 1:0 1:1 1:1 {1 .}", "1: 0:0 0:4 0:1 {1 .} / 1:0 1:1 1:1 {1 .}"},
		{"x = 1; unroll 2 x < 3; x = 1; end", 1, "0:1 0:1 {1 .} / 1:1 1:1 {2 .}", "2: 1:1 1:1 {2 .} / 0:1 0:1 1:1 {1 .}"},

		// None, some and all of the numbers; nothing else, something below, above, and on both sides.
		{"split x 2 4", 0, "- {0..1 .}", "1: 0:3 {0..1 .}"},
		{"split x 2 4", 0, "- {5..9 .}", "1: 0:3 {5..9 .}"},
		{"split x 2 4", 0, "- {2 .}", "1: 0:0 {2 .}"},
		{"split x 2 4", 0, "- {4 .}", "1: 0:2 {4 .}"},
		{"split x 2 4", 0, "- {2..4 .}", "1: 0:0 {2 .} / 0:1 {3 .} / 0:2 {4 .}"},
		{"split x 2 4", 0, "- {1..2 .}", "1: 0:0 {2 .} / 0:3 {1 .}"},
		{"split x 2 4", 0, "- {4..5 .}", "1: 0:2 {4 .} / 0:3 {5 .}"},
		{"split x 2 4", 0, "- {1..5 .}", "1: 0:0 {2 .} / 0:1 {3 .} / 0:2 {4 .} / 0:3 {1..5 .}"},
		{"split x 2 4", 0, "- {-9223372036854775808..9223372036854775807 .}", "1: 0:0 {2 .} / 0:1 {3 .} / 0:2 {4 .} / 0:3 {-9223372036854775808..9223372036854775807 .}"},
		{"split x 2 2", 0, "- {0..9 2}", "1: 0:0 {2 2} / 0:1 {0..9 .}"},
		{"split x 0 3", 0, "- {-1..9 .}", "1: 0:0 {0 .} / 0:1 {1 .} / 0:2 {2 .} / 0:3 {3 .} / 0:4 {-1..9 .}"},
		{"split x -" + most + " -" + most, 0, "- {-9223372036854775808..0 .}", "1: 0:0 {-" + most + " .} / 0:1 {-9223372036854775808..0 .}"},
		{"split x " + most + " " + most, 0, "- {0..9223372036854775807 .}", "1: 0:0 {" + most + " .} / 0:1 {0..9223372036854775807 .}"},
		{"x = 1; split x 2 4", 1, "- {2..3 3..6} / 0:0 {1 4}", "2: 1:0 {2 .} / 1:1 {3 3} / 1:2 {. 4} / 1:3 {. 5..6} / 0:0 1:2 {. 4} / 0:0 1:3 {1 .}"},
		{"split x 2 4", 0, "1:1 1:1 1:1 {1..3 8}", "1: 1:1 1:1 1:1 {1..3 8}"},
		{"split x 2 4", 0, "1:1 1:1 {3..4 .} / 1:1 1:1 0:1 {8 1}", "1: 1:1 1:1 0:1 {3..8 1} / 1:1 1:1 0:2 {4 .}"},

		{"merge", 0, "- {1 .}", "1: - {1 .}"},
		{"merge", 0, "0:0 1:1 2:2 {1 .}", "1: - {1 .}"},
		{"merge", 0, "- {1 .} / 0:0 {5 6} / 0:1 1:1 {-2 .} / 0:0 0:0 0:0 {. 9}", "1: - {-2..5 6..9}"},
		{"merge; merge", 1, "1:1 {1 .}", "2: - {1 .}"},
	})
}

// rising are so many tokens of two entries, and room for one more, none of which has line 0.
func rising(many int) [][]impl.Entry {
	var l [][]impl.Entry
	for i := range int64(many) {
		l = append(l, entries(1+i/5, i%5, 29, 4))
	}
	return l
}

func TestFlowsThatAreFull(t *testing.T) {
	p := progOf(t, "var x\nsplit x 0 3\nfork x < 3\nend\nif x < 3\nend\nmerge\nx = 6 / x\n")
	of := func(many int, a impl.Interval) []impl.Part {
		return partsBy(rising(many), []impl.Env{{Live: true, Ints: []impl.Interval{a}}})
	}
	for _, r := range []struct {
		many  int
		a     impl.Interval
		parts int
	}{{100, iv(1, 1), 100}, {100, iv(7, 9), 100}, {50, iv(1, 2), 100}, {51, iv(1, 2), 0}, {25, iv(0, 3), 100}, {26, iv(0, 3), 0}, {33, iv(1, 3), 99}, {34, iv(1, 3), 0}, {20, iv(0, 9), 100}, {20, iv(-1, 4), 100}, {21, iv(-1, 4), 0}, {100, iv(low, top), 0}} {
		f := checkFlow(t, p, 0, of(r.many, r.a))
		if r.parts == 0 {
			if !sameFlows(f, impl.Flows{Full: true}) {
				t.Error(r, f.Full, len(f.Edges))
			}
			continue
		}
		if f.Full || len(f.Edges) != 1 || len(f.Edges[0].Parts) != r.parts || f.Edges[0].To != 1 {
			t.Error(r, f.Full, len(f.Edges))
		}
	}
	// Just one Part more than there may be.
	l := append(of(50, iv(1, 2)), impl.Part{Token: entries(28, 0, 0, 0), Table: []impl.Env{{Live: true, Ints: []impl.Interval{iv(8, 8)}}}})
	if f := checkFlow(t, p, 0, l); !sameFlows(f, impl.Flows{Full: true}) {
		t.Error(showFlows(f))
	}
	if f := checkFlow(t, p, 0, l[1:]); f.Full || len(f.Edges[0].Parts) != 99 {
		t.Error(showFlows(f))
	}
	// Tokens without room become no more.
	full := of(100, iv(-5, 9))
	for i := range full {
		full[i].Token = append(full[i].Token, impl.Entry{Line: 9, Pick: 1})
	}
	for at := range int64(7) {
		f := checkFlow(t, p, at, full)
		if f.Full || len(f.Edges) == 0 || at != 5 && len(f.Edges[0].Parts) != 100 {
			t.Error(at, showFlows(f))
		}
		f = checkFlow(t, p, at, of(100, iv(-5, 9)))
		if f.Full != (at == 0) {
			t.Error(at, showFlows(f))
		}
	}
}

func TestStart(t *testing.T) {
	for _, r := range [][2]string{
		{"", "- {}"}, {"var x\n", "- {0}"}, {"var x y z\n", "- {0,0,0}"}, {"flag b\n", "- { .}"}, {"array a 3\n", "- {0}"}, {"var x\nflag b\narray a 16 c 1\n", "- {0,0,0 .}"}, {"var x y z v w\nflag b c f\narray a 2\nx = 7\n", "- {0,0,0,0,0,0 . . . . . . .}"},
	} {
		p := progOf(t, r[0])
		l := impl.Start(p)
		if showParts(l) != r[1] || !impl.PartsOk(p.D, l) || !impl.PartsHas(p.D, l, nil, impl.StoreNew(p.D)) {
			t.Error(r, showParts(l))
		}
	}
}

func showTokens(l []impl.Snap) string {
	var texts []string
	for _, s := range l {
		texts = append(texts, fmt.Sprint(s.Line, " ", plainTokenText(s.Token)))
	}
	return strings.Join(texts, ", ")
}

func TestTokensOfTraces(t *testing.T) {
	fill := "split y 0 0; split y 0 0; split y 0 0; "
	filled := "0 -, 1 0:0, 2 0:0 1:0, 3 0:0 1:0 2:0, "
	for _, r := range []struct {
		lines  string
		inputs []int64
		out    string
	}{
		{"fork x == 0; end", nil, "0 -, 1 0:1, 2 0:1"},
		{"fork x != 0; end", nil, "0 -, 1 0:0, 2 0:0"},
		{"fork x == 0; y = 1; else; y = 2; end", nil, "0 -, 1 0:1, 2 0:1, 4 0:1, 5 0:1"},
		{"fork x != 0; y = 1; else; y = 2; end", nil, "0 -, 3 0:0, 4 0:0, 5 0:0"},
		{"if x == 0; end; while x != 0; end; fork b; end", nil, "0 -, 1 -, 2 -, 4 -, 5 4:0, 6 4:0"},
		{fill + "fork true; end", nil, filled + "4 0:0 1:0 2:0, 5 0:0 1:0 2:0"},
		{fill + "fork false; end", nil, filled + "4 0:0 1:0 2:0, 5 0:0 1:0 2:0"},
		{"unroll 2 x < 3; x = x + 1; end", nil, "0 -, 1 0:1, 2 0:1, 0 0:1, 1 0:1 0:1, 2 0:1 0:1, 0 0:1 0:1, 1 0:1 0:1, 2 0:1 0:1, 0 0:1 0:1, 3 0:1 0:1"},
		{"unroll 1 x < 2; x = x + 1; end", nil, "0 -, 1 0:1, 2 0:1, 0 0:1, 1 0:1, 2 0:1, 0 0:1, 3 0:1"},
		{"unroll 3 x < 4; x = x + 1; end", nil, "0 -, 1 0:1, 2 0:1, 0 0:1, 1 0:1 0:1, 2 0:1 0:1, 0 0:1 0:1, 1 0:1 0:1 0:1, 2 0:1 0:1 0:1, 0 0:1 0:1 0:1, 1 0:1 0:1 0:1, 2 0:1 0:1 0:1, 0 0:1 0:1 0:1, 3 0:1 0:1 0:1"},
		{"unroll 1 x > 2; end", nil, "0 -, 2 -"},
		{"unroll 1 x < 2; x = x + 1; merge; end", nil, "0 -, 1 0:1, 2 0:1, 3 -, 0 -, 1 0:1, 2 0:1, 3 -, 0 -, 4 -"},
		{"fork true; end; unroll 1 x < 1; x = 1; end", nil, "0 -, 1 0:1, 2 0:1, 3 0:1 2:1, 4 0:1 2:1, 2 0:1 2:1, 5 0:1 2:1"},
		{fill + "unroll 3 x < 1; x = 1; end", nil, filled + "4 0:0 1:0 2:0, 5 0:0 1:0 2:0, 3 0:0 1:0 2:0, 6 0:0 1:0 2:0"},
		{"x = input 0 9; split x 2 4", []int64{1}, "0 -, 1 -, 2 1:3"},
		{"x = input 0 9; split x 2 4", []int64{2}, "0 -, 1 -, 2 1:0"},
		{"x = input 0 9; split x 2 4", []int64{3}, "0 -, 1 -, 2 1:1"},
		{"x = input 0 9; split x 2 4", []int64{4}, "0 -, 1 -, 2 1:2"},
		{"x = input 0 9; split x 2 4", []int64{5}, "0 -, 1 -, 2 1:3"},
		{"x = input 0 9; split x 2 2; split x 3 3", []int64{2}, "0 -, 1 -, 2 1:0, 3 1:0 2:1"},
		{"x = input 0 9; split x 2 5; split x 0 0", []int64{9}, "0 -, 1 -, 2 1:4, 3 1:4 2:1"},
		{"x = input 0 9; split x 2 5", []int64{5}, "0 -, 1 -, 2 1:3"},
		{"split y -3 -1; split x -2 1", nil, "0 -, 1 0:3, 2 0:3 1:2"},
		{fill + "split y 0 0; split y 1 1", nil, filled + "4 0:0 1:0 2:0, 5 0:0 1:0 2:0"},
		{"merge; split y 0 0; merge; split y 1 2", nil, "0 -, 1 -, 2 1:0, 3 -, 4 3:2"},
		{fill + "merge; split y 0 0", nil, filled + "4 -, 5 4:0"},
		{"y = 3; b = true; if b; end; assert true; assume true; while false; end; fork b; end; y = 4", nil, "0 -, 1 -, 2 -, 3 -, 4 -, 5 -, 6 -, 8 -, 9 8:1, 10 8:1, 11 8:1"},
	} {
		p := progOf(t, "var x y\nflag b\n"+strings.ReplaceAll(r.lines, "; ", "\n")+"\n")
		if got := showTokens(checkTrace(t, p, r.inputs, 100)); got != r.out {
			t.Errorf("%s: %s, not %s", r.lines, got, r.out)
		}
	}
}

// plainStep is one step of a run with a token, and its Code; with RnOk or else nothing.
func plainStep(p impl.Prog, s impl.Snap, inputs []int64) (impl.Snap, int64) {
	l := p.Lines[s.Line]
	r := plainRun{p: p, inputs: inputs}
	r.out.Store = withRoom(s.Store)
	n, ok := int64(0), true
	to := impl.Targets(p)[s.Line]
	switch {
	case opens(l.Kind):
		n, ok = r.value(s.Line, l.E)
		if n == 1 {
			to = s.Line + 1
		}
	default:
		if l.Kind == impl.LnSplit {
			n = s.Store.Ints[l.V]
		}
		ok = r.plain(s.Line, l)
	}
	if !ok {
		return impl.Snap{}, r.out.Code
	}
	return impl.Snap{Line: to, Token: plainToken(l, s.Line, s.Token, n), Store: r.out.Store}, impl.RnOk
}

// checkTrace holds a trace against the runs of less fuel, and its tokens against each step alone.
func checkTrace(t *testing.T, p impl.Prog, inputs []int64, fuel int64) []impl.Snap {
	t.Helper()
	out, l := impl.Run(p, inputs, fuel), impl.Trace(p, inputs, fuel)
	many := out.Steps
	if out.Code == impl.RnOk || out.Code == impl.RnFuel {
		many++
	}
	if int64(len(l)) != many || out.Code == impl.RnForm {
		t.Fatalf("%s%v %d: %d Snaps, not %d: %v", impl.ProgText(p), inputs, fuel, len(l), many, out)
	}
	want := impl.Snap{Store: impl.StoreNew(p.D)}
	for i, s := range l {
		some := impl.Run(p, inputs, int64(i))
		if s.Line != some.Line || !sameStore(s.Store, some.Store) || !slices.Equal(s.Token, want.Token) || want.Line != s.Line || !sameStore(s.Store, want.Store) {
			t.Fatalf("%s%v %d: Snap %d: %v, not %v", impl.ProgText(p), inputs, fuel, i, s, want)
		}
		if i+1 < len(l) {
			want, _ = plainStep(p, s, inputs[min(some.Used, int64(len(inputs))):])
		}
	}
	return l
}

func TestTracesAtTheirEdges(t *testing.T) {
	for _, r := range []struct {
		src               string
		fuel, code, snaps int64
	}{
		{"", 0, impl.RnOk, 1}, {"", 1, impl.RnOk, 1}, {"", 2000, impl.RnOk, 1}, {"", 2001, impl.RnForm, 0}, {"", -1, impl.RnForm, 0},
		{"var x\nx = 1\n", 0, impl.RnFuel, 1}, {"var x\nx = 1\n", 1, impl.RnOk, 2}, {"var x\nx = 1\n", 2, impl.RnOk, 2},
		{"var x\nx = 1\nx = 2\n", 1, impl.RnFuel, 2}, {"var x\nx = 1\nx = 2\n", 2, impl.RnOk, 3},
		{"while true\nend\n", 2000, impl.RnFuel, 2001}, {"while true\nend\n", 2001, impl.RnForm, 0}, {"while true\nend\n", low, impl.RnForm, 0}, {"while true\nend\n", top, impl.RnForm, 0}, {"while true\nend\n", 0, impl.RnFuel, 1}, {"while true\nend\n", 1, impl.RnFuel, 2},
		{"assume false\n", 9, impl.RnAssume, 1}, {"assume false\n", 1, impl.RnAssume, 1}, {"assume false\n", 0, impl.RnFuel, 1}, {"merge\nassume false\n", 9, impl.RnAssume, 2}, {"merge\nassert false\n", 9, impl.RnAssert, 2},
		{"var x\nmerge\nx = 1 / x\n", 9, impl.RnDiv, 2}, {"array a 2\na[2] = 1\n", 9, impl.RnBounds, 1}, {"array a 2\nmerge\nmerge\na[0] = a[3]\n", 9, impl.RnBounds, 3},
		{"var x\nx = 999999999999999999\nx = x * x\n", 9, impl.RnOver, 2}, {"var x\nx = 999999999999999999\nx = x * x\n", 1, impl.RnFuel, 2},
		{"var x\nfork 1 / x > 0\nend\n", 9, impl.RnDiv, 1}, {"var x\nunroll 2 1 / x > 0\nend\n", 9, impl.RnDiv, 1}, {"var x\nfork 1 / x > 0\nend\n", 0, impl.RnFuel, 1}, {"var x\nfork x > 0\nend\n", 1, impl.RnFuel, 2},
		{"var x\nsplit x 0 0\n", 0, impl.RnFuel, 1}, {"var x\nsplit x 0 0\n", 1, impl.RnOk, 2},
	} {
		p := progOf(t, r.src)
		if out := impl.Run(p, nil, r.fuel); out.Code != r.code {
			t.Fatal(r, out)
		}
		if r.code == impl.RnForm {
			if l := impl.Trace(p, nil, r.fuel); len(l) != 0 {
				t.Error(r, len(l))
			}
			continue
		}
		if l := checkTrace(t, p, nil, r.fuel); int64(len(l)) != r.snaps {
			t.Error(r, len(l))
		}
	}
	p := progOf(t, "var x\nwhile x < 9\nx = input 0 9\nend\n")
	if l := impl.Trace(p, make([]int64, 1001), 5); len(l) != 0 {
		t.Error(len(l))
	}
	if l := checkTrace(t, p, make([]int64, 1000), 2000); len(l) != 2001 {
		t.Error(len(l))
	}
}

// alarmOfRun is what must be told where a run goes wrong so; 0 where it does not.
func alarmOfRun(code int64) int64 {
	if code == impl.RnAssert {
		return impl.AlAssert
	}
	return alarmOfCode[code]
}

// checkGoes: promise 10, of one that l has.
func checkGoes(t *testing.T, p impl.Prog, l []impl.Part, f impl.Flows, s impl.Snap, inputs []int64) int64 {
	t.Helper()
	if !impl.PartsHas(p.D, l, s.Token, s.Store) {
		t.Fatalf("%s%d: %v is not in %s", impl.ProgText(p), s.Line, s, showParts(l))
	}
	behind, code := plainStep(p, s, inputs)
	if code == impl.RnAssume || f.Full {
		return code
	}
	if alarm := alarmOfRun(code); f.Alarms&alarm != alarm {
		t.Fatalf("%s%v: no alarm %d: %s: %s", impl.ProgText(p), s, code, showParts(l), showFlows(f))
	}
	goes := func(e impl.Edge) bool {
		return e.To == behind.Line && impl.PartsHas(p.D, e.Parts, behind.Token, behind.Store)
	}
	if code == impl.RnOk && !slices.ContainsFunc(f.Edges, goes) {
		t.Fatalf("%s%v: no edge has %v: %s: %s", impl.ProgText(p), s, behind, showParts(l), showFlows(f))
	}
	return code
}

// someWideParts are right ones of wideDecl; their tokens have lines of the program.
func someWideParts(r *rand.Rand, p impl.Prog, most int) []impl.Part {
	seen := map[string]bool{}
	var l []impl.Part
	near := r.Int63n(int64(len(p.Lines)))
	for range 1 + r.Intn(most) {
		var token []impl.Entry
		for range r.Intn(4) {
			e := impl.Entry{Line: near, Pick: r.Int63n(2)}
			if r.Intn(2) == 0 {
				e = impl.Entry{Line: r.Int63n(int64(len(p.Lines))), Pick: r.Int63n(5)}
			}
			token = append(token, e)
		}
		if seen[plainOrder(token)] {
			continue
		}
		seen[plainOrder(token)] = true
		table := make([]impl.Env, 8)
		table[r.Intn(8)] = someBounds(r)
		for i := range table {
			if r.Intn(3) == 0 {
				table[i] = someBounds(r)
			}
		}
		l = append(l, impl.Part{Token: token, Table: table})
	}
	slices.SortFunc(l, func(a, b impl.Part) int { return strings.Compare(plainOrder(a.Token), plainOrder(b.Token)) })
	return l
}

// snapIn is one of a Part that l has.
func snapIn(r *rand.Rand, at int64, l []impl.Part) impl.Snap {
	p := l[r.Intn(len(l))]
	leaf := r.Intn(8)
	for !p.Table[leaf].Live {
		leaf = r.Intn(8)
	}
	return impl.Snap{Line: at, Token: p.Token, Store: storeIn(r, p.Table[leaf], int64(leaf))}
}

// Promise 10, of any numbers and tokens.
func TestWhateverGoesFromALine(t *testing.T) {
	r := rand.New(rand.NewSource(10))
	kinds, codes := map[int64]int{}, map[int64]int{}
	for i := range 1200 {
		p := likelyProg(r)
		if i%4 == 0 {
			p = someProg(r)
		}
		for at := range p.Lines {
			if r.Intn(2) == 0 && opens(p.Lines[at].Kind) {
				p.Lines[at].E = likelyTruth(r, 2)
			}
		}
		if !impl.ProgOk(p) {
			t.Fatal(p)
		}
		for at := range int64(len(p.Lines)) {
			l := someWideParts(r, p, 6)
			f := checkFlow(t, p, at, l)
			kinds[p.Lines[at].Kind]++
			for range 12 {
				codes[checkGoes(t, p, l, f, snapIn(r, at, l), []int64{r.Int63() - r.Int63()})]++
			}
		}
	}
	for kind := range int64(14) {
		if kinds[kind+1] < 100 {
			t.Error("kind", kind+1, kinds[kind+1])
		}
	}
	for _, code := range []int64{impl.RnOk, impl.RnAssume, impl.RnDiv, impl.RnBounds, impl.RnOver, impl.RnAssert} {
		if codes[code] < 100 {
			t.Error("code", code, codes[code])
		}
	}
}

// around are Parts that have a Snap, and more.
func around(r *rand.Rand, s impl.Snap) []impl.Part {
	e := impl.Env{Live: true}
	for _, n := range s.Store.Ints {
		e.Ints = append(e.Ints, iv(n, n))
	}
	for _, l := range s.Store.Arrs {
		e.Arrs = append(e.Arrs, iv(slices.Min(l), slices.Max(l)))
	}
	table := make([]impl.Env, 8)
	for leaf := range table {
		if r.Intn(4) == 0 {
			table[leaf] = someBounds(r)
		}
		if leaf == leafIn(s.Store) {
			table[leaf] = wider(r, e)
		}
	}
	return []impl.Part{{Token: s.Token, Table: table}}
}

func leafIn(s impl.Store) int {
	leaf := 0
	for i, holds := range s.Flags {
		if holds {
			leaf += 1 << i
		}
	}
	return leaf
}

// Promise 10, of the steps of runs.
func TestWhereverARunGoes(t *testing.T) {
	r := rand.New(rand.NewSource(11))
	codes, lengths := map[int64]int{}, map[int]int{}
	for range 1000 {
		p := likelyProg(r)
		inputs := make([]int64, r.Intn(5))
		for i := range inputs {
			inputs[i] = r.Int63n(60) - 30
		}
		l := checkTrace(t, p, inputs, 40)
		out := impl.Run(p, inputs, 40)
		codes[out.Code]++
		if !impl.PartsHas(p.D, impl.Start(p), l[0].Token, l[0].Store) {
			t.Fatal("start", l[0])
		}
		for i, s := range l {
			lengths[len(s.Token)]++
			if s.Line == int64(len(p.Lines)) {
				continue
			}
			used := impl.Run(p, inputs, int64(i)).Used
			parts := around(r, s)
			checkGoes(t, p, parts, checkFlow(t, p, s.Line, parts), s, inputs[used:])
		}
	}
	for code := range int64(8) {
		if code != impl.RnForm && codes[code] < 5 {
			t.Error("code", code, codes[code])
		}
	}
	for many := range 4 {
		if lengths[many] < 100 {
			t.Error("tokens of", many, lengths[many])
		}
	}
}

const wrongSource = "var x\nflag b\narray a 2\nx = 1\nsplit x 0 1\nfork x < 1\nend\nmerge\n"

// wrongProgs are made of a right one by one change each.
func wrongProgs(t *testing.T) []impl.Prog {
	p := progOf(t, wrongSource)
	var wrong []impl.Prog
	change := func(do func(p *impl.Prog)) {
		other := withRoom(p)
		do(&other)
		wrong = append(wrong, other)
	}
	change(func(p *impl.Prog) { p.Lines[0].V = 1 })
	change(func(p *impl.Prog) { p.Lines[0].Hi = 1 })
	change(func(p *impl.Prog) { p.Lines[0].E = nil })
	change(func(p *impl.Prog) { p.Lines[0].Kind = 15 })
	change(func(p *impl.Prog) { p.Lines[1].Hi = 4 })
	change(func(p *impl.Prog) { p.Lines[1].Lo = 2 })
	change(func(p *impl.Prog) { p.Lines[3].Kind = impl.LnMerge })
	change(func(p *impl.Prog) { p.Lines[4].Kind = impl.LnEnd })
	change(func(p *impl.Prog) { p.Lines[4].Kind = impl.LnElse })
	change(func(p *impl.Prog) { p.Lines = append(p.Lines, make([]impl.Line, 1)...) })
	change(func(p *impl.Prog) { p.Lines = slices.Repeat([]impl.Line{{Kind: impl.LnMerge}}, 31) })
	for _, d := range wrongDecls() {
		change(func(p *impl.Prog) { p.D = d })
		change(func(p *impl.Prog) { p.D, p.Lines = d, nil })
	}
	return wrong
}

func TestFlowsOfWhatIsWrong(t *testing.T) {
	p := progOf(t, wrongSource)
	right := partsBy(fewRisen(), []impl.Env{{Live: true, Ints: []impl.Interval{iv(0, 3)}, Arrs: []impl.Interval{iv(0, 3)}}, {}})
	for at := range int64(5) {
		if f := checkFlow(t, p, at, right); len(f.Edges) == 0 {
			t.Error(at)
		}
		if f := impl.Flow(p, at, nil); !sameFlows(f, impl.Flows{}) {
			t.Error("no parts", at, f)
		}
	}
	for _, at := range []int64{low, -1, 5, 6, 30, top} {
		if f := impl.Flow(p, at, right); !sameFlows(f, impl.Flows{}) {
			t.Error(at, f)
		}
	}
	if f := impl.Flow(impl.Prog{}, 0, []impl.Part{{Table: []impl.Env{{Live: true}}}}); !sameFlows(f, impl.Flows{}) {
		t.Error("no lines", f)
	}
	for flags := range 4 {
		p := progOf(t, "var x\nx = 1 / x\nmerge\n")
		p.D = flagDecl(flags)
		if !impl.ProgOk(p) {
			t.Fatal(p)
		}
		for _, l := range wrongParts(flags) {
			for at := range int64(2) {
				if f := impl.Flow(p, at, l); !sameFlows(f, impl.Flows{}) {
					t.Error(l, f)
				}
			}
		}
	}
	for _, w := range wrongProgs(t) {
		if impl.ProgOk(w) {
			t.Fatal(w)
		}
		for at := int64(-1); at < 6; at++ {
			for _, l := range [][]impl.Part{right, nil} {
				if f := impl.Flow(w, at, l); !sameFlows(f, impl.Flows{}) {
					t.Error(w, at, f)
				}
			}
		}
		if l := impl.Start(w); len(l) != 0 {
			t.Error(w, l)
		}
		if l := impl.Trace(w, nil, 10); len(l) != 0 {
			t.Error(w, l)
		}
	}
}

// Promise 15, of this chapter.
func TestFlowsAndTracesShareNothing(t *testing.T) {
	r := rand.New(rand.NewSource(12))
	for range 200 {
		p := likelyProg(r)
		inputs := withRoom([]int64{r.Int63n(9), r.Int63n(9)})
		roomy := withRoom(p)
		checkNew(t, func() []impl.Part { return impl.Start(roomy) }, roomy)
		checkNew(t, func() []impl.Snap { return impl.Trace(roomy, inputs, 30) }, roomy, inputs)
		for at := range int64(len(p.Lines)) {
			l := withRoom(someWideParts(r, p, 4))
			checkNew(t, func() impl.Flows { return impl.Flow(roomy, at, l) }, roomy, l)
		}
	}
	// All kinds of lines, of Parts that share their tables and tokens.
	p := progOf(t, "var x\nflag b\narray a 1\nx = 1\nb = x > 0\na[0] = x\nx = input 0 3\nif b\nelse\nend\nfork b\nend\nwhile b\nend\nunroll 2 b\nend\nassert b\nassume b\nsplit x 0 2\nmerge\n")
	full := entries(3, 1, 3, 1, 3, 1)
	table := []impl.Env{{Live: true, Ints: []impl.Interval{iv(0, 5)}, Arrs: []impl.Interval{iv(0, 0)}}, {Live: true, Ints: []impl.Interval{iv(0, 5)}, Arrs: []impl.Interval{iv(0, 0)}}}
	for at := range int64(len(p.Lines)) {
		for _, l := range [][]impl.Part{{{Table: table}, {Token: full[:1], Table: table}, {Token: full[:2], Table: table}, {Token: full, Table: table}}, {{Token: full, Table: table}}} {
			before := image(l)
			f := checkFlow(t, p, at, l)
			checkApart(t, f, l, p)
			if len(f.Edges) == 0 || image(l) != before {
				t.Error(at, showFlows(f))
			}
		}
	}
}
