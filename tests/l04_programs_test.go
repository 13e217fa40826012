package tests

import (
	"math/rand"
	"regexp"
	"slices"
	"strings"
	"testing"

	"loop.example/g00719/impl"
)

const wideHead = "var x y z longname inputs\nflag b c truer\narray a 1 endlessx 16\n"

func sameDecl(a, b impl.Decl) bool {
	return slices.Equal(a.Vars, b.Vars) && slices.Equal(a.Flags, b.Flags) && slices.Equal(a.Arrays, b.Arrays)
}

func sameLine(a, b impl.Line) bool {
	return a.Kind == b.Kind && a.V == b.V && slices.Equal(a.I, b.I) && slices.Equal(a.E, b.E) && a.Lo == b.Lo && a.Hi == b.Hi
}

func sameProg(a, b impl.Prog) bool {
	return sameDecl(a.D, b.D) && slices.EqualFunc(a.Lines, b.Lines, sameLine)
}

// checkTold: the line that is told, and nothing else where one is.
func checkTold(t *testing.T, src string, want int64) {
	t.Helper()
	p, line := impl.ParseProg(src)
	if line != want || line != 0 && !sameProg(p, impl.Prog{}) || line == 0 && !impl.ProgOk(p) {
		t.Errorf("%q: %d, not %d", src, line, want)
	}
}

// lineRows: a line of each kind, and its text.
func lineRows() []struct {
	text string
	line impl.Line
} {
	return []struct {
		text string
		line impl.Line
	}{
		{"x = 1", impl.Line{Kind: impl.LnSet, E: post("1")}},
		{"inputs = x + 2 * y", impl.Line{Kind: impl.LnSet, V: 4, E: post("x 2 y * +")}},
		{"b = x < y", impl.Line{Kind: impl.LnFlag, E: post("x y <")}},
		{"truer = !b", impl.Line{Kind: impl.LnFlag, V: 2, E: post("b !")}},
		{"a[0] = x", impl.Line{Kind: impl.LnStore, I: post("0"), E: post("x")}},
		{"endlessx[a[x] + 1] = -y", impl.Line{Kind: impl.LnStore, V: 1, I: post("x a 1 +"), E: post("y neg")}},
		{"y = input 0 0", impl.Line{Kind: impl.LnInput, V: 1}},
		{"x = input -3 5", impl.Line{Kind: impl.LnInput, Lo: -3, Hi: 5}},
		{"x = input -999999999999999999 999999999999999999", impl.Line{Kind: impl.LnInput, Lo: -impl.MaxNum, Hi: impl.MaxNum}},
		{"if b", impl.Line{Kind: impl.LnIf, E: post("b")}},
		{"fork x != 0 | c", impl.Line{Kind: impl.LnFork, E: post("x 0 != c |")}},
		{"while x < 10 & (b | c)", impl.Line{Kind: impl.LnWhile, E: post("x 10 < b c | &")}},
		{"unroll 1 true", impl.Line{Kind: impl.LnUnroll, E: post("true"), Lo: 1}},
		{"unroll 3 -x < y", impl.Line{Kind: impl.LnUnroll, E: post("x neg y <"), Lo: 3}},
		{"assert x >= 0", impl.Line{Kind: impl.LnAssert, E: post("x 0 >=")}},
		{"assume !(b & c)", impl.Line{Kind: impl.LnAssume, E: post("b c & !")}},
		{"split longname -1 2", impl.Line{Kind: impl.LnSplit, V: 3, Lo: -1, Hi: 2}},
		{"split x 5 5", impl.Line{Kind: impl.LnSplit, Lo: 5, Hi: 5}},
		{"split x -999999999999999999 -999999999999999996", impl.Line{Kind: impl.LnSplit, Lo: -impl.MaxNum, Hi: 3 - impl.MaxNum}},
		{"merge", impl.Line{Kind: impl.LnMerge}},
	}
}

func opens(kind int64) bool {
	return kind == impl.LnIf || kind == impl.LnFork || kind == impl.LnWhile || kind == impl.LnUnroll
}

func TestEachKindOfLine(t *testing.T) {
	for _, r := range lineRows() {
		p := impl.Prog{D: wideDecl(), Lines: []impl.Line{r.line}}
		want := wideHead + r.text + "\n"
		if opens(r.line.Kind) {
			p.Lines = append(p.Lines, impl.Line{Kind: impl.LnEnd})
			want += "end\n"
		}
		if !impl.ProgOk(p) || impl.ProgText(p) != want {
			t.Errorf("%q: %q", r.text, impl.ProgText(p))
		}
		if back, line := impl.ParseProg(want); line != 0 || !sameProg(back, p) {
			t.Errorf("%q: %d %v", r.text, line, back)
		}
	}
	if s := impl.ProgText(impl.Prog{}); s != "" || !impl.ProgOk(impl.Prog{}) || len(impl.Targets(impl.Prog{})) != 0 {
		t.Error("nothing", s)
	}
	for head, d := range map[string]impl.Decl{"var x\n": {Vars: []string{"x"}}, "flag b c\n": {Flags: []string{"b", "c"}}, "array a 7\n": {Arrays: []impl.Arr{{Name: "a", Size: 7}}}, "var x\narray a 1\n": {Vars: []string{"x"}, Arrays: []impl.Arr{{Name: "a", Size: 1}}}} {
		if p, line := impl.ParseProg(head); line != 0 || !sameProg(p, impl.Prog{D: d}) || impl.ProgText(p) != head {
			t.Error(head, line)
		}
	}
}

// lineRight goes through the document's table of lines.
func lineRight(d impl.Decl, l impl.Line) bool {
	const num, truth = impl.KdNum, impl.KdTruth
	v, i, e := 1, int64(0), int64(0)
	loHi := l.Lo == 0 && l.Hi == 0
	far := l.Lo < -impl.MaxNum || l.Hi > impl.MaxNum || l.Lo > l.Hi
	switch l.Kind {
	case impl.LnSet:
		v, e = len(d.Vars), num
	case impl.LnFlag:
		v, e = len(d.Flags), truth
	case impl.LnStore:
		v, i, e = len(d.Arrays), num, num
	case impl.LnInput:
		v, loHi = len(d.Vars), !far
	case impl.LnSplit:
		v, loHi = len(d.Vars), !far && l.Hi <= l.Lo+3
	case impl.LnUnroll:
		e, loHi = truth, (l.Lo == 1 || l.Lo == 2 || l.Lo == 3) && l.Hi == 0
	case impl.LnIf, impl.LnFork, impl.LnWhile, impl.LnAssert, impl.LnAssume:
		e = truth
	case impl.LnElse, impl.LnEnd, impl.LnMerge:
	default:
		return false
	}
	is := func(l []impl.Tok, kind int64) bool {
		return len(l) == 0 && kind == 0 || len(l) > 0 && kind > 0 && kindOfToks(l) == kind
	}
	return l.V >= 0 && l.V < int64(v) && is(l.I, i) && is(l.E, e) && loHi
}

func TestFieldsOfLines(t *testing.T) {
	d := wideDecl()
	exprs := [][]impl.Tok{nil, {}, post("x"), post("b"), post("x y"), post("b neg"), {{Op: impl.TkVar, N: 5}}}
	const m = impl.MaxNum
	ends := [][2]int64{{0, 0}, {1, 0}, {2, 0}, {3, 0}, {4, 0}, {0, 1}, {0, 3}, {0, 4}, {-1, 2}, {-1, 3}, {-1, 0}, {1, 1}, {3, 3}, {-m, -m}, {-m, 3 - m}, {-m, 4 - m}, {-m - 1, -m}, {-m - 1, -m - 1}, {-m - 1, m}, {m, m}, {m - 3, m}, {m, m + 1}, {-m, m}, {-m, m + 1}, {m + 1, m + 1}, {low, top}, {top, low}, {low, low}, {top, top}, {low, 0}, {0, top}}
	right := 0
	for kind := int64(-1); kind <= 16; kind++ {
		for v := int64(-1); v <= 6; v++ {
			for _, i := range exprs {
				for _, e := range exprs {
					for _, n := range ends {
						l := impl.Line{Kind: kind, V: v, I: i, E: e, Lo: n[0], Hi: n[1]}
						p := impl.Prog{D: d, Lines: []impl.Line{l}}
						switch {
						case opens(kind):
							p.Lines = append(p.Lines, impl.Line{Kind: impl.LnEnd})
						case kind == impl.LnEnd:
							p.Lines = []impl.Line{{Kind: impl.LnIf, E: post("b")}, l}
						case kind == impl.LnElse:
							p.Lines = []impl.Line{{Kind: impl.LnIf, E: post("b")}, l, {Kind: impl.LnEnd}}
						}
						want := lineRight(d, l)
						if impl.ProgOk(p) != want {
							t.Fatal(l, want)
						}
						if want {
							right++
						}
						if to := impl.Targets(p); (len(to) > 0) != want || (impl.ProgText(p) != "") != want {
							t.Fatal(l, to)
						}
					}
				}
			}
		}
	}
	if right < 100 {
		t.Error("right ones", right)
	}
}

func TestCountOfLines(t *testing.T) {
	for n := 28; n <= 32; n++ {
		p := impl.Prog{Lines: slices.Repeat([]impl.Line{{Kind: impl.LnMerge}}, n)}
		src := strings.Repeat("merge\n", n)
		if impl.ProgOk(p) != (n <= 30) || (impl.ProgText(p) == src) != (n <= 30) || (len(impl.Targets(p)) == n) != (n <= 30) {
			t.Error(n)
		}
		want := int64(0)
		if n > 30 {
			want = 31
		}
		checkTold(t, src, want)
		if n > 30 {
			want = 35
		}
		checkTold(t, "\nvar x\n \n\n"+src, want)
	}
}

// The lines of blocks by letters: i, f, l, e, w, u, m for LnIf, LnFork, LnElse, LnEnd, LnWhile, LnUnroll, LnMerge.
var letterKinds = map[rune]impl.Line{'i': {Kind: impl.LnIf, E: []impl.Tok{{Op: impl.TkTrue}}}, 'f': {Kind: impl.LnFork, E: []impl.Tok{{Op: impl.TkTrue}}}, 'l': {Kind: impl.LnElse}, 'e': {Kind: impl.LnEnd}, 'w': {Kind: impl.LnWhile, E: []impl.Tok{{Op: impl.TkTrue}}}, 'u': {Kind: impl.LnUnroll, E: []impl.Tok{{Op: impl.TkTrue}}, Lo: 2}, 'm': {Kind: impl.LnMerge}}

var letterTexts = map[rune]string{'i': "if true\n", 'f': "fork true\n", 'l': "else\n", 'e': "end\n", 'w': "while true\n", 'u': "unroll 2 true\n", 'm': "merge\n"}

var wholeBlock = regexp.MustCompile("m|[if]l?e|[wu]e")

var openBlocks = regexp.MustCompile("^([if]l?|[wu])*$")

// unfinished is what is left when all blocks that are whole are taken away.
func unfinished(letters string) string {
	for {
		less := wholeBlock.ReplaceAllString(letters, "")
		if less == letters {
			return letters
		}
		letters = less
	}
}

// matching goes on from a line to where its block is left: its LnElse (where that is asked for) or its LnEnd.
func matching(letters string, from int, orElse bool) int {
	deep := 0
	for i := from + 1; i < len(letters); i++ {
		switch c := letters[i]; {
		case deep == 0 && (c == 'e' || c == 'l' && orElse):
			return i
		case strings.IndexByte("ifwu", c) >= 0:
			deep++
		case c == 'e':
			deep--
		}
	}
	return -1
}

func targetsOf(letters string) []int64 {
	to := make([]int64, len(letters))
	for i := range letters {
		to[i] = int64(i) + 1
	}
	for i, c := range letters {
		switch c {
		case 'i', 'f':
			to[i] = int64(matching(letters, i, true))
			if letters[to[i]] == 'l' {
				to[i]++
			}
		case 'l':
			to[i] = int64(matching(letters, i, false))
		case 'w', 'u':
			end := matching(letters, i, false)
			to[i], to[end] = int64(end)+1, int64(i)
		}
	}
	return to
}

func eachText(letters string, most int, do func(s string)) {
	var grow func(s string)
	grow = func(s string) {
		do(s)
		for _, c := range letters {
			if len(s) < most {
				grow(s + string(c))
			}
		}
	}
	grow("")
}

func TestBlocksAndTargets(t *testing.T) {
	right := 0
	check := func(letters string) {
		var p impl.Prog
		src := ""
		wrong := int64(0)
		for i, c := range letters {
			p.Lines = append(p.Lines, letterKinds[c])
			src += letterTexts[c]
			if wrong == 0 && !openBlocks.MatchString(unfinished(letters[:i+1])) {
				wrong = int64(i) + 1
			}
		}
		if wrong == 0 && unfinished(letters) != "" {
			wrong = int64(len(letters)) + 1
		}
		checkTold(t, src, wrong)
		if impl.ProgOk(p) != (wrong == 0) {
			t.Fatal(letters)
		}
		var want []int64
		if wrong == 0 {
			right++
			want = targetsOf(letters)
		}
		if to := impl.Targets(p); !slices.Equal(to, want) {
			t.Fatal(letters, to)
		}
	}
	eachText("iflewum", 5, check)
	eachText("ilew", 8, check)
	for _, s := range []string{"iiilliieee", "wiwemlwuemeee", "imlfuememlmee", "iiiiiiiiiieeeeeeeeee", "iwlee", "wilee", "iwelee", "ilwee", "ileie", "ilele"} {
		check(s)
	}
	if right < 500 {
		t.Error("right ones", right)
	}
}

func TestDeclarationLines(t *testing.T) {
	texts := map[rune]string{'v': "var x\n", 'f': "flag b\n", 'a': "array a 1\n", 'm': "merge\n", ' ': "  \n"}
	ranks := map[rune]int{'v': 1, 'f': 2, 'a': 3, 'm': 4}
	eachText("vfam ", 5, func(s string) {
		src, last, wrong := "", 0, int64(0)
		for i, c := range s {
			src += texts[c]
			rank := ranks[c]
			if wrong == 0 && c != ' ' && (rank < last || rank == last && rank < 4) {
				wrong = int64(i) + 1
			}
			last = max(last, rank)
		}
		checkTold(t, src, wrong)
	})
	for _, r := range []struct {
		src  string
		line int64
	}{{"var\n", 1}, {"flag \n", 1}, {"array\n", 1}, {"array a\n", 1}, {"array a 1 e\n", 1}, {"array a 0\n", 1}, {"array a 1\n", 0}, {"array a 16\n", 0}, {"array a 17\n", 1}, {"array a -1\n", 1}, {"array 1 a\n", 1}, {"array a 1 2\n", 1}, {"array a b\n", 1}, {"array a 1 e 16\n", 0}, {"array a 1 e 16 g 2\n", 1}, {"array a 1 a 2\n", 1}, {"var p q r s t\n", 0}, {"var p q r s t u\n", 1}, {"flag p q r\n", 0}, {"flag p q r s\n", 1}, {"var abcdefgh\n", 0}, {"var abcdefghi\n", 1}, {"var x\nflag b x\n", 2}, {"var x\nflag b\narray x 2\n", 3}, {"flag b\narray b 2\n", 2}, {"var x x\n", 1}, {"var x, y\n", 1}, {"var x 1\n", 1}, {"var x1\n", 1}, {"var X\n", 1}, {"var (x)\n", 1}, {"var x =\n", 1}, {"varx\n", 1}, {"var if\n", 1}, {"var var\n", 1}, {"flag true\n", 1}, {"array end 3\n", 1}, {"  var   x   y  \n", 0}, {"array a 000016\n", 0}, {"array a 1000000000000000000\n", 1}, {"var x\nvar y\n", 2}, {"flag b\nflag c\n", 2}, {"array a 1\narray e 1\n", 2}, {"var x\nx = y\nvar y\n", 2}, {"x = 1\nvar x\n", 1}} {
		checkTold(t, r.src, r.line)
	}
	for _, w := range keyWords {
		checkTold(t, "var x "+w+"\n", 1)
	}
}

func TestLinesThatAreNone(t *testing.T) {
	for _, s := range []string{"x", "x =", "= 1", "x 1", "x == 1", "x = b", "x = x < y", "b = 1", "b = x", "a = 1", "a[] = 1", "a[0] =", "a[0]", "a[b] = 1", "a[0] = b", "a[0 = 1", "a 0] = 1", "x[0] = 1", "b[0] = true", "w = 1", "1 = x", "x = 1 2", "x = 1;", "x = 1 y = 2", "x = y = 1", "x = (1", "x = 1)", "x = input", "x = input 1", "x = input 1 2 3", "x = input 2 1", "x = input x y", "x = input 1 - 2", "x = input --1 2", "x = input +1 2", "x = input (1) 2", "x = input 1, 2", "x = input - - 1 2", "b = input 0 1", "a[0] = input 0 1", "x = 1 + input 0 1", "x = -input 0 1", "x = (input 0 1)", "input 0 1", "x = input 0 1000000000000000000", "x = input -1000000000000000000 0", "x = input 0 9999999999999999999999", "x = input 0 18446744073709551617", "split x 0 18446744073709551617", "if", "if x", "if 1", "if b c", "if = b", "if b then", "fork", "fork x", "while", "while x + 1", "else b", "end 1", "end end", "merge x", "merge 1", "merge merge", "unroll", "unroll b", "unroll 1", "unroll 0 b", "unroll 4 b", "unroll -1 b", "unroll 1 x", "unroll 1 2 b", "unroll x b", "unroll 1000000000000000000 b", "assert", "assert x", "assume", "assume 0", "split", "split x", "split x 1", "split x 0 4", "split x 1 0", "split x 0 1 2", "split b 0 1", "split a 0 1", "split w 0 1", "split 0 1 x", "split x y z", "split (x) 0 1", "split x -1000000000000000000 -999999999999999999", "true", "true = b", "false", "b = ", "b = !", "b = !x", "If b", "IF b", "ifb", "elsex", "x = 1 # one", "# one", "x := 1", "x\t= 1", "\t", "\r", "x = 1\r", "\x00", "é = 1", "x = é", "-x = 1", "(x) = 1", ".", "var", "flag f", "array g 2", "x = a", "x = -" + strings.Repeat("-", 12) + "y", "a[" + strings.Repeat("-", 13) + "y] = 1", "b = " + strings.Repeat("!", 13) + "b", "x = " + strings.Repeat("1+", 20) + "1"} {
		lead := wideHead + "if b\nx = 1\n"
		checkTold(t, lead+s+"\nend\n", 6)
		checkTold(t, lead+"end\n\n  "+s+" \n", 8)
		checkTold(t, lead+s+"\n"+s+"\nx = = 1\n", 6)
	}
}

func TestLinesWithBlanks(t *testing.T) {
	for _, r := range [][2]string{{"x=1", "x = 1"}, {"  x  =  1  ", "x = 1"}, {"a [ 0 ]=1", "a[0] = 1"}, {"endlessx[((x))]=(y)", "endlessx[x] = y"}, {"b=x==y", "b = x == y"}, {"b=!c", "b = !c"}, {"x=-1", "x = -1"}, {"x = input - 3 5", "x = input -3 5"}, {"x=input-3-1", "x = input -3 -1"}, {"x = input -  3  -   1 ", "x = input -3 -1"}, {"x = input 003 000000000000000000005", "x = input 3 5"}, {"x = input -007 0", "x = input -7 0"}, {"split x -1-1", "split x -1 -1"}, {"split  x  -  2  1", "split x -2 1"}, {"assert(b)", "assert b"}, {"assume!b", "assume !b"}, {" merge ", "merge"}, {"assert((x)<(y))", "assert x < y"}, {"a[" + strings.Repeat("-", 12) + "x] = " + nest("(", "x", ")", 12), "a[" + strings.Repeat("-", 12) + "x] = x"}, {"endlessx[" + nest("a[", "x", "]", 12) + "] = " + nest("a[", "x", "]", 12), "endlessx[" + nest("a[", "x", "]", 12) + "] = " + nest("a[", "x", "]", 12)}} {
		p, line := impl.ParseProg(wideHead + r[0] + "\n")
		if line != 0 || impl.ProgText(p) != wideHead+r[1]+"\n" {
			t.Errorf("%q: %d %q", r[0], line, impl.ProgText(p))
		}
	}
	for _, r := range [][2]string{{"if(b)", "if b"}, {"while!b", "while !b"}, {"unroll 2(b)", "unroll 2 b"}, {"unroll 3 - 1 < x", "unroll 3 -1 < x"}, {"unroll 02 b", "unroll 2 b"}, {" fork  x<1 ", "fork x < 1"}} {
		p, line := impl.ParseProg(wideHead + r[0] + "\n end \n")
		if line != 0 || impl.ProgText(p) != wideHead+r[1]+"\nend\n" {
			t.Errorf("%q: %d %q", r[0], line, impl.ProgText(p))
		}
	}
}

func TestWhichLineIsTold(t *testing.T) {
	for _, r := range []struct {
		src  string
		line int64
	}{{"", 0}, {"\n", 0}, {"   \n\n \n", 0}, {" ", 1}, {"merge", 1}, {"merge\n ", 2}, {"merge\nmerge", 2}, {"merge\n\nmerge", 3}, {"var x", 1}, {"\n\nvar x\n\nflag b\n  \narray a 2\n\n\na[0] = x\n \n", 0}, {"if true\n", 2}, {"if true\n\n \n", 4}, {"if true\nif true\nend\n", 4}, {"if true\nend", 2}, {"if true\nmerge", 2}, {"if true\nelse\n", 3}, {"while true\n\nelse\nend\n", 3}, {"end\n", 1}, {"else\n", 1}, {"\n\nend\nelse\n", 3}, {"if true\nend\nend\n", 3}, {"if true\nend\nelse\n", 3}, {"x\ny\n", 1}, {"merge\nx\ny\n", 2}, {"merge\nx\ny", 2}, {"merge\nend\nx = 1\nif true\n", 2}, {"if true\nx\n", 2}, {"if true\nvar x\nend\n", 2}, {"\r\n", 1}, {"merge\r\n", 1}, {"\t\n", 1}, {"merge\n\t\n", 2}, {"\n\x00", 2}, {"\n\x00\n", 2}} {
		checkTold(t, r.src, r.line)
	}
}

func TestLengthOfSources(t *testing.T) {
	for _, r := range [][2]string{{"var x\nx = 1", "\n"}, {"var x\nx =", "1\n"}, {"", "\nmerge\n"}, {"merge\n", "\n"}, {"assert (", "true)\n"}} {
		src := r[0] + strings.Repeat(" ", 4000-len(r[0])-len(r[1])) + r[1]
		if len(src) != 4000 {
			t.Fatal(len(src))
		}
		checkTold(t, src, 0)
		checkTold(t, src+"\n", 1)
		checkTold(t, " "+src, 1)
	}
	checkTold(t, "merge\n"+strings.Repeat("\n", 3994), 0)
	checkTold(t, "merge\n"+strings.Repeat("\n", 3995), 1)
	checkTold(t, "merge\nx\n"+strings.Repeat("\n", 3992), 2)
	checkTold(t, strings.Repeat(" ", 4000), 1)
	checkTold(t, strings.Repeat("\n", 4000), 0)
	checkTold(t, "if true\n"+strings.Repeat("\n", 3992), 3994)
	checkTold(t, strings.Repeat("x", 100000), 1)
}

// someProg is a right one for wideDecl or a piece of it.
func someProg(r *rand.Rand) impl.Prog {
	p := impl.Prog{D: wideDecl()}
	var fill func(many int, deep int)
	expr := func(kind int64) []impl.Tok {
		for {
			if l := someExpr(r, kind, r.Intn(4)); impl.ExprText(p.D, l) != "" {
				return l
			}
		}
	}
	put := func(l impl.Line) { p.Lines = append(p.Lines, l) }
	fill = func(many int, deep int) {
		for range many {
			switch kind := 1 + r.Int63n(14); kind {
			case impl.LnSet:
				put(impl.Line{Kind: kind, V: r.Int63n(5), E: expr(impl.KdNum)})
			case impl.LnFlag:
				put(impl.Line{Kind: kind, V: r.Int63n(3), E: expr(impl.KdTruth)})
			case impl.LnStore:
				put(impl.Line{Kind: kind, V: r.Int63n(2), I: expr(impl.KdNum), E: expr(impl.KdNum)})
			case impl.LnInput, impl.LnSplit:
				lo := r.Int63n(20) - 10
				put(impl.Line{Kind: kind, V: r.Int63n(5), Lo: lo, Hi: lo + r.Int63n(4)})
			case impl.LnAssert, impl.LnAssume:
				put(impl.Line{Kind: kind, E: expr(impl.KdTruth)})
			case impl.LnMerge:
				put(impl.Line{Kind: kind})
			case impl.LnIf, impl.LnFork, impl.LnWhile, impl.LnUnroll:
				l := impl.Line{Kind: kind, E: expr(impl.KdTruth)}
				if kind == impl.LnUnroll {
					l.Lo = 1 + r.Int63n(3)
				}
				if deep > 0 {
					put(l)
					fill(r.Intn(3), deep-1)
					if kind <= impl.LnFork && r.Intn(2) == 0 {
						put(impl.Line{Kind: impl.LnElse})
						fill(r.Intn(3), deep-1)
					}
					put(impl.Line{Kind: impl.LnEnd})
				}
			}
		}
	}
	fill(r.Intn(8), 3)
	if len(p.Lines) > 30 {
		return someProg(r)
	}
	return p
}

// looser has more blanks, and lines of them; rows tells which line each line has become.
func looser(r *rand.Rand, src string) (string, []int64) {
	out, rows, line := "", []int64{}, int64(0)
	for _, l := range strings.SplitAfter(strings.TrimSuffix(src, "\n"), "\n") {
		for range r.Intn(3) {
			out += strings.Repeat(" ", r.Intn(3)) + "\n"
			line++
		}
		line++
		rows = append(rows, line)
		words := strings.Split(strings.TrimSuffix(l, "\n"), " ")
		out += strings.Repeat(" ", r.Intn(2)) + strings.Join(words, strings.Repeat(" ", 1+r.Intn(2))) + strings.Repeat(" ", r.Intn(2)) + "\n"
	}
	return out, rows
}

// Promise 4.
func TestProgramsComeBack(t *testing.T) {
	r := rand.New(rand.NewSource(4))
	for range 3000 {
		p := someProg(r)
		src := impl.ProgText(p)
		if src == "" {
			t.Fatal(p)
		}
		loose, rows := looser(r, src)
		if len(loose) > impl.MaxSource {
			continue
		}
		for _, s := range []string{src, loose} {
			back, line := impl.ParseProg(s)
			if line != 0 || !sameProg(back, p) || impl.ProgText(back) != src {
				t.Fatalf("%q: %d", s, line)
			}
		}
		lines := strings.SplitAfter(loose, "\n")
		first, second := rows[r.Intn(len(rows))], rows[r.Intn(len(rows))]
		lines[first-1], lines[second-1] = "x @ 1\n", "= 1\n"
		checkTold(t, strings.Join(lines, ""), min(first, second))
	}
}

// Promise 4: whatever is not parsed is wrong in one of its lines, or behind them.
func TestToldLineIsThere(t *testing.T) {
	r := rand.New(rand.NewSource(44))
	for range 200 {
		src := impl.ProgText(someProg(r))
		for cut := range min(len(src), impl.MaxSource) {
			s := src[:cut]
			p, line := impl.ParseProg(s)
			lines := int64(strings.Count(s, "\n"))
			if !strings.HasSuffix(s, "\n") && s != "" {
				checkTold(t, s, lines+1)
			}
			if line < 0 || line > lines+1 || line == 0 && impl.ProgText(p) != s {
				t.Fatalf("%q: %d", s, line)
			}
			b := []byte(src[:min(len(src), impl.MaxSource)])
			b[cut] = "x1 =\n([-!<&@\x00"[r.Intn(13)]
			if p, line := impl.ParseProg(string(b)); line < 0 || line > int64(strings.Count(string(b), "\n"))+1 || (line == 0) != (impl.ProgOk(p) && !sameProg(p, impl.Prog{})) {
				t.Fatalf("%q: %d", b, line)
			}
		}
	}
}

func TestProgramsThatAreNotRight(t *testing.T) {
	deep := func(n int) []impl.Tok { return append(post("x"), slices.Repeat(post("neg"), n)...) }
	set := func(l []impl.Tok) impl.Line { return impl.Line{Kind: impl.LnSet, E: l} }
	for _, r := range []struct {
		p    impl.Prog
		ok   bool
		text bool
	}{{impl.Prog{D: wideDecl(), Lines: []impl.Line{set(deep(12))}}, true, true}, {impl.Prog{D: wideDecl(), Lines: []impl.Line{set(deep(13))}}, true, false}, {impl.Prog{D: wideDecl(), Lines: []impl.Line{{Kind: impl.LnStore, I: deep(13), E: post("1")}}}, true, false}, {impl.Prog{D: wideDecl(), Lines: []impl.Line{{Kind: impl.LnStore, I: deep(12), E: deep(12)}}}, true, true}, {impl.Prog{D: wideDecl(), Lines: []impl.Line{{Kind: impl.LnMerge}, set(post("1")), set(deep(13)), {Kind: impl.LnMerge}}}, true, false}, {impl.Prog{D: wideDecl(), Lines: []impl.Line{set(deep(39))}}, true, false}, {impl.Prog{D: wideDecl(), Lines: []impl.Line{set(deep(40))}}, false, false}, {impl.Prog{D: wideDecl(), Lines: []impl.Line{{}}}, false, false}, {impl.Prog{D: wideDecl(), Lines: []impl.Line{set(post("1")), set(post("b"))}}, false, false}, {impl.Prog{Lines: []impl.Line{set(post("1"))}}, false, false}, {impl.Prog{Lines: []impl.Line{{Kind: impl.LnInput}}}, false, false}} {
		if impl.ProgOk(r.p) != r.ok || (len(impl.Targets(r.p)) > 0) != r.ok || (impl.ProgText(r.p) != "") != r.text {
			t.Error(r)
		}
	}
	for _, d := range wrongDecls() {
		p := impl.Prog{D: d, Lines: []impl.Line{{Kind: impl.LnMerge}}}
		if impl.ProgOk(p) || len(impl.Targets(p)) > 0 || impl.ProgText(p) != "" || impl.ProgOk(impl.Prog{D: d}) || impl.ProgText(impl.Prog{D: d}) != "" {
			t.Error(d)
		}
	}
}

// Promise 15, of this chapter.
func TestProgramsShareNothing(t *testing.T) {
	src := wideHead + "endlessx[x + 1] = y + 2\nx = y + 2\nwhile x < y\nend\n"
	one, _ := impl.ParseProg(src)
	two, _ := impl.ParseProg(src)
	to := impl.Targets(one)
	for i := range to {
		to[i] = -1
	}
	text := impl.ProgText(one)
	// Whatever is written behind one list, or into it, stays out of all others.
	for i := range one.Lines {
		l := &one.Lines[i]
		l.I = append(l.I, impl.Tok{Op: 77})
		l.E = append(l.E, impl.Tok{Op: 78})
	}
	for i := range one.Lines {
		l := &one.Lines[i]
		if l.I[len(l.I)-1].Op != 77 || l.E[len(l.E)-1].Op != 78 {
			t.Error("shared", i)
		}
		l.I, l.E = l.I[:len(l.I)-1], l.E[:len(l.E)-1]
	}
	if !sameProg(one, two) || text != src || impl.ProgText(one) != src || !slices.Equal(impl.Targets(one), []int64{1, 2, 4, 2}) {
		t.Error("changed")
	}
}
