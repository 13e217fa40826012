package tests

import (
	"math/rand"
	"slices"
	"strconv"
	"strings"
	"testing"

	"loop.example/g00719/impl"
)

// wideDecl has as much of everything as there may be.
func wideDecl() impl.Decl {
	return impl.Decl{Vars: []string{"x", "y", "z", "longname", "inputs"}, Flags: []string{"b", "c", "truer"}, Arrays: []impl.Arr{{Name: "a", Size: 1}, {Name: "endlessx", Size: 16}}}
}

var keyWords = []string{"var", "flag", "array", "if", "fork", "else", "end", "while", "unroll", "assert", "assume", "input", "split", "merge", "true", "false"}

// signLevels: how strongly what stands between two things binds, from the weakest on; a gap is left for !.
var signLevels = map[string]int{"|": 1, "&": 2, "<": 4, "<=": 4, "==": 4, "!=": 4, ">": 4, ">=": 4, "+": 5, "-": 5, "*": 6, "/": 6, "%": 6}

var signOps = map[string]int64{"+": impl.TkAdd, "-": impl.TkSub, "*": impl.TkMul, "/": impl.TkQuo, "%": impl.TkRem, "<": impl.TkLt, "<=": impl.TkLe, "==": impl.TkEq, "!=": impl.TkNe, ">": impl.TkGt, ">=": impl.TkGe, "&": impl.TkAnd, "|": impl.TkOr, "!": impl.TkNot, "neg": impl.TkNeg, "true": impl.TkTrue, "false": impl.TkFalse}

func sortedSigns() []string {
	var l []string
	for s := range signLevels {
		l = append(l, s)
	}
	slices.Sort(l)
	return l
}

// post reads Toks from words in their order: numbers, names of wideDecl, a name of an array behind its place, neg, and signs.
func post(words string) []impl.Tok {
	d := wideDecl()
	var l []impl.Tok
	for _, w := range strings.Fields(words) {
		n, err := strconv.ParseInt(w, 10, 64)
		t := impl.Tok{Op: signOps[w]}
		if err == nil {
			t = impl.Tok{Op: impl.TkNum, N: n}
		}
		if i := slices.Index(d.Vars, w); i >= 0 {
			t = impl.Tok{Op: impl.TkVar, N: int64(i)}
		}
		if i := slices.Index(d.Flags, w); i >= 0 {
			t = impl.Tok{Op: impl.TkFlag, N: int64(i)}
		}
		for i, a := range d.Arrays {
			if a.Name == w {
				t = impl.Tok{Op: impl.TkAt, N: int64(i)}
			}
		}
		l = append(l, t)
	}
	return l
}

func wrongDecls() []impl.Decl {
	return []impl.Decl{{Vars: []string{"x", "x"}}, {Vars: []string{"x", "b"}, Flags: []string{"b"}}, {Vars: []string{"x", ""}}, {Vars: []string{"x", "ninechars"}}, {Vars: []string{"x", "while"}}, {Vars: []string{"x"}, Arrays: []impl.Arr{{Name: "a"}}}, {Vars: []string{"x", "y", "z", "u", "v", "w"}}}
}

func TestNames(t *testing.T) {
	for _, r := range []struct {
		name string
		want bool
	}{{"a", true}, {"z", true}, {"abcdefgh", true}, {"zzzzzzzz", true}, {"abcdefghi", false}, {"", false}, {"A", false}, {"aB", false}, {"x1", false}, {"1", false}, {"x_", false}, {"x y", false}, {" x", false}, {"x ", false}, {"`", false}, {"{", false}, {"é", false}, {"x\x00", false}, {"vars", true}, {"tru", true}, {"inpu", true}, {"ifs", true}, {"merges", true}} {
		if impl.DeclOk(impl.Decl{Vars: []string{r.name}}) != r.want || impl.DeclOk(impl.Decl{Flags: []string{r.name}}) != r.want || impl.DeclOk(impl.Decl{Arrays: []impl.Arr{{Name: r.name, Size: 1}}}) != r.want {
			t.Errorf("name %q", r.name)
		}
	}
	for _, w := range keyWords {
		if impl.DeclOk(impl.Decl{Vars: []string{w}}) || impl.DeclOk(impl.Decl{Flags: []string{w}}) || impl.DeclOk(impl.Decl{Arrays: []impl.Arr{{Name: w, Size: 1}}}) {
			t.Error("word", w)
		}
	}
}

func TestDeclarations(t *testing.T) {
	if !impl.DeclOk(impl.Decl{}) || !impl.DeclOk(wideDecl()) {
		t.Error("right ones")
	}
	names := []string{"p", "q", "r", "s", "t", "u"}
	for n := range names {
		l := names[:n+1]
		var arrays []impl.Arr
		for _, name := range l {
			arrays = append(arrays, impl.Arr{Name: name, Size: 1})
		}
		if impl.DeclOk(impl.Decl{Vars: l}) != (len(l) <= 5) || impl.DeclOk(impl.Decl{Flags: l}) != (len(l) <= 3) || impl.DeclOk(impl.Decl{Arrays: arrays}) != (len(l) <= 2) {
			t.Error("count", len(l))
		}
	}
	for _, size := range []int64{low, -1, 0, 1, 2, 15, 16, 17, top} {
		want := 1 <= size && size <= 16
		if impl.DeclOk(impl.Decl{Arrays: []impl.Arr{{Name: "a", Size: size}}}) != want || impl.DeclOk(impl.Decl{Arrays: []impl.Arr{{Name: "e", Size: 1}, {Name: "a", Size: size}}}) != want {
			t.Error("size", size)
		}
	}
	one := impl.Arr{Name: "x", Size: 1}
	for _, d := range append(wrongDecls(), impl.Decl{Vars: []string{"y", "x", "z", "x"}}, impl.Decl{Flags: []string{"x", "x"}}, impl.Decl{Arrays: []impl.Arr{one, one}}, impl.Decl{Vars: []string{"x"}, Arrays: []impl.Arr{one}}, impl.Decl{Flags: []string{"x"}, Arrays: []impl.Arr{one}}, impl.Decl{Vars: []string{"y", "x"}, Flags: []string{"b", "x"}}) {
		if impl.DeclOk(d) {
			t.Error(d)
		}
	}
}

// kindOfToks goes through the document's table, with kinds on the pile alone; for wideDecl.
func kindOfToks(l []impl.Tok) int64 {
	const num, truth = impl.KdNum, impl.KdTruth
	type row struct {
		many   int64
		takes  []int64
		leaves int64
	}
	rows := map[int64]row{impl.TkNum: {1000000000000000000, nil, num}, impl.TkVar: {5, nil, num}, impl.TkFlag: {3, nil, truth}, impl.TkTrue: {1, nil, truth}, impl.TkFalse: {1, nil, truth}, impl.TkAt: {2, []int64{num}, num}, impl.TkNeg: {1, []int64{num}, num}, impl.TkNot: {1, []int64{truth}, truth}, impl.TkAnd: {1, []int64{truth, truth}, truth}, impl.TkOr: {1, []int64{truth, truth}, truth}}
	for op := int64(impl.TkAdd); op <= impl.TkRem; op++ {
		rows[op] = row{1, []int64{num, num}, num}
	}
	for op := int64(impl.TkLt); op <= impl.TkGe; op++ {
		rows[op] = row{1, []int64{num, num}, truth}
	}
	var pile []int64
	for _, t := range l {
		r := rows[t.Op]
		rest := len(pile) - len(r.takes)
		if t.N < 0 || t.N >= r.many || rest < 0 || !slices.Equal(pile[rest:], r.takes) {
			return 0
		}
		pile = append(pile[:rest], r.leaves)
	}
	if len(pile) != 1 || len(l) > 40 {
		return 0
	}
	return pile[0]
}

// eachList goes through all lists of the Toks with at most so many.
func eachList(from []impl.Tok, most int, do func(l []impl.Tok)) {
	var grow func(l []impl.Tok)
	grow = func(l []impl.Tok) {
		do(l)
		if len(l) == most {
			return
		}
		for _, t := range from {
			grow(append(l, t))
		}
	}
	grow(make([]impl.Tok, 0, most))
}

func TestExprOkByTheTable(t *testing.T) {
	d := wideDecl()
	var all []impl.Tok
	for op := int64(-1); op <= 23; op++ {
		for _, n := range []int64{-1, 0, 1, 5} {
			all = append(all, impl.Tok{Op: op, N: n})
		}
	}
	check := func(l []impl.Tok) {
		if got := impl.ExprOk(d, l); got != kindOfToks(l) {
			t.Fatal(l, got)
		}
	}
	eachList(all, 2, check)
	for _, t := range all {
		check(append(post("x y"), t))
		check(append(post("b c"), t))
	}
	eachList(post("1 x b true a neg + < ! &"), 5, check)
	pairs := post("1 x b true a neg + - * / % < <= == != > >= ! & |")
	for _, first := range post("1 b") {
		for _, second := range post("x c") {
			eachList(pairs, 2, func(l []impl.Tok) { check(append([]impl.Tok{first, second}, l...)) })
		}
	}
}

func TestExprOkNumbersAndPlaces(t *testing.T) {
	d := wideDecl()
	for _, r := range []struct {
		t    impl.Tok
		want int64
	}{{impl.Tok{Op: impl.TkNum}, 1}, {impl.Tok{Op: impl.TkNum, N: impl.MaxNum}, 1}, {impl.Tok{Op: impl.TkNum, N: impl.MaxNum + 1}, 0}, {impl.Tok{Op: impl.TkNum, N: -1}, 0}, {impl.Tok{Op: impl.TkNum, N: low}, 0}, {impl.Tok{Op: impl.TkNum, N: top}, 0}, {impl.Tok{Op: impl.TkVar, N: 4}, 1}, {impl.Tok{Op: impl.TkVar, N: 5}, 0}, {impl.Tok{Op: impl.TkVar, N: -1}, 0}, {impl.Tok{Op: impl.TkVar, N: top}, 0}, {impl.Tok{Op: impl.TkFlag, N: 2}, 2}, {impl.Tok{Op: impl.TkFlag, N: 3}, 0}, {impl.Tok{Op: impl.TkFlag, N: low}, 0}, {impl.Tok{Op: impl.TkTrue}, 2}, {impl.Tok{Op: impl.TkTrue, N: 1}, 0}, {impl.Tok{Op: impl.TkFalse, N: -1}, 0}, {impl.Tok{Op: top}, 0}, {impl.Tok{Op: low}, 0}, {impl.Tok{}, 0}} {
		if impl.ExprOk(d, []impl.Tok{r.t}) != r.want {
			t.Error(r)
		}
	}
	at := func(n int64) []impl.Tok { return []impl.Tok{{Op: impl.TkNum}, {Op: impl.TkAt, N: n}} }
	if impl.ExprOk(d, at(1)) != impl.KdNum || impl.ExprOk(d, at(2)) != 0 || impl.ExprOk(d, at(-1)) != 0 || impl.ExprOk(impl.Decl{}, at(0)) != 0 || impl.ExprOk(d, nil) != 0 {
		t.Error("places")
	}
	for n := 38; n <= 42; n++ {
		l := append(post("1"), slices.Repeat(post("neg"), n-1)...)
		if (impl.ExprOk(d, l) == impl.KdNum) != (n <= 40) {
			t.Error("count", n)
		}
	}
}

// The document's rule for parentheses, over each two operations that go together.
func TestEachTwoOperations(t *testing.T) {
	d := wideDecl()
	operand := map[bool]string{false: "x", true: "b"}
	truths := func(sign string) bool { return signLevels[sign] <= 2 }
	for _, outer := range sortedSigns() {
		for _, inner := range sortedSigns() {
			if leavesTruth := signLevels[inner] <= 4; leavesTruth != truths(outer) {
				continue
			}
			side, pair := operand[truths(outer)], operand[truths(inner)]
			text := pair + " " + inner + " " + pair
			less, alike := signLevels[inner] < signLevels[outer], signLevels[inner] == signLevels[outer]
			left, right := text, text
			if less {
				left = "(" + text + ")"
			}
			if less || alike {
				right = "(" + text + ")"
			}
			inToks := pair + " " + pair + " " + inner
			checkText(t, d, post(inToks+" "+side+" "+outer), left+" "+outer+" "+side)
			checkText(t, d, post(side+" "+inToks+" "+outer), side+" "+outer+" "+right)
		}
	}
}

// checkText: the text is that of the Toks, and these come back from it and from looser ones.
func checkText(t *testing.T, d impl.Decl, l []impl.Tok, want string) {
	t.Helper()
	if got := impl.ExprText(d, l); got != want {
		t.Errorf("%v: %q, not %q", l, got, want)
	}
	tight := strings.ReplaceAll(want, " ", "")
	loose := ""
	for i, c := range want {
		letters := func(i int) bool {
			return i >= 0 && (want[i] >= 'a' && want[i] <= 'z' || want[i] >= '0' && want[i] <= '9')
		}
		sign := func(i int) bool { return i >= 0 && strings.IndexByte("<=!>", want[i]) >= 0 }
		if !(letters(i) && letters(i-1)) && !(sign(i-1) && c == '=') {
			loose += "   "
		}
		loose += string(c)
	}
	for _, s := range []string{want, tight, loose + "  ", "(" + want + ")"} {
		got, ok := impl.ParseExpr(d, s)
		if !ok || !slices.Equal(got, l) {
			t.Errorf("%q: %v %v, not %v", s, got, ok, l)
		}
	}
}

func TestExpressionTexts(t *testing.T) {
	d := wideDecl()
	for _, r := range [][2]string{{"0", "0"}, {"999999999999999999", "999999999999999999"}, {"x", "x"}, {"inputs", "inputs"}, {"longname", "longname"}, {"b", "b"}, {"truer", "truer"}, {"true", "true"}, {"false", "false"}, {"x a", "a[x]"}, {"x y + endlessx a", "a[endlessx[x + y]]"}, {"1 neg", "-1"}, {"x neg neg", "--x"}, {"b ! !", "!!b"}, {"b c & !", "!(b & c)"}, {"b c | !", "!(b | c)"}, {"b ! c &", "!b & c"}, {"b c ! &", "b & !c"}, {"b ! c |", "!b | c"}, {"x y < !", "!x < y"}, {"x y == ! b &", "!x == y & b"}, {"x neg y *", "-x * y"}, {"x y * neg", "-(x * y)"}, {"x y + neg", "-(x + y)"}, {"x y neg *", "x * -y"}, {"x y neg -", "x - -y"}, {"x y neg - z -", "x - -y - z"}, {"x a neg", "-a[x]"}, {"x neg a", "a[-x]"}, {"x y - z -", "x - y - z"}, {"x y z - -", "x - (y - z)"}, {"x y z - +", "x + (y - z)"}, {"x y * z +", "x * y + z"}, {"x y + z *", "(x + y) * z"}, {"x y / z %", "x / y % z"}, {"x y z % /", "x / (y % z)"}, {"x y + z < b &", "x + y < z & b"}, {"b x y z + < &", "b & x < y + z"}, {"b c | truer &", "(b | c) & truer"}, {"b c truer & |", "b | c & truer"}, {"b c truer & &", "b & (c & truer)"}, {"b c & truer &", "b & c & truer"}, {"b c truer | |", "b | (c | truer)"}, {"x neg y neg < ! ! b ! |", "!!-x < -y | !b"}} {
		checkText(t, d, post(r[0]), r[1])
	}
}

func TestParseExprTakes(t *testing.T) {
	d := wideDecl()
	for _, r := range [][2]string{{"x", "x"}, {" x ", "x"}, {"((x))", "x"}, {"( x+(y) )", "x y +"}, {"007", "7"}, {"0", "0"}, {"000", "0"}, {"000000000000000000", "0"}, {"999999999999999999", "999999999999999999"}, {"000000000000000001", "1"}, {"0000000000000000000000001", "1"}, {"00999999999999999999", "999999999999999999"}, {"- 5", "5 neg"}, {"-(-x)", "x neg neg"}, {"x--y", "x y neg -"}, {"x---y", "x y neg neg -"}, {"x+-y*z", "x y neg z * +"}, {"x-y+z-1", "x y - z + 1 -"}, {"x*y/z%2*3", "x y * z / 2 % 3 *"}, {"a [ ( x ) ]", "x a"}, {"endlessx[0]+a[1]", "0 endlessx 1 a +"}, {"x<-y", "x y neg <"}, {"x!=-y", "x y neg !="}, {"!(x<y)", "x y < !"}, {"! ! b", "b ! !"}, {"b&!x<=y|c", "b x y <= ! & c |"}, {"(x<y)&(b)", "x y < b &"}, {"(((x)+((y)))*(z))", "x y + z *"}, {"b|c&truer|b", "b c truer & | b |"}, {"(b|c)&truer", "b c | truer &"}, {"truer&true", "truer true &"}, {"inputs>longname", "inputs longname >"}} {
		got, ok := impl.ParseExpr(d, r[0])
		if !ok || !slices.Equal(got, post(r[1])) {
			t.Errorf("%q: %v %v", r[0], got, ok)
		}
	}
}

func TestParseExprRefuses(t *testing.T) {
	d := wideDecl()
	for _, s := range append([]string{"", " ", "()", "(", ")", "[x]", "x+", "+x", "*x", "x y", "x 1", "1 2", "1x", "x1", "x(y)", "(x)(y)", "(x", "x)", "((x)", "(x))", "a", "a[", "a[x", "a[]", "a]", "a x]", "a(x)", "x[1]", "b[1]", "a[1][1]", "a[b]", "a[x<y]", "w", "X", "xx", "b+1", "1+b", "b<c", "b==c", "x==b", "x<b", "x&b", "b&x", "x|y", "!x", "!1", "-b", "-true", "--b", "x<y<z", "x<y==b", "x==y==z", "(x<y)<z", "x<(y<z)", "(x<y)==b", "x<y>z", "b!c", "b!", "x-", "x=1", "x = = y", "x < = y", "x ! = y", "x =< y", "x => y", "x<>y", "x&&b", "b&&c", "b||c", "b & & c", "x**y", "x//y", "x++y", "x^y", "x,y", "x;y", "x\t+y", "x\n", "\nx", "x\r", "x\x00", "\x00", "é", "x+é", "1.5", "0x1", "1e3", "1_000", "1000000000000000000", "1234567890123456789", "001000000000000000000", "99999999999999999999999999", "18446744073709551617", "36893488147419103232", "true1", "true false", "tru", "TRUE", "-", "!", "--", "!!", "-!b", "x<!b", "b&-c", "(x+y)*", "x*(y+z", "a[x]+", "true=b"}, keyWords[:14]...) {
		if l, ok := impl.ParseExpr(d, s); ok || len(l) > 0 {
			t.Errorf("%q: %v", s, l)
		}
	}
}

// Every byte between two things, ahead of one and behind one.
func TestEachByte(t *testing.T) {
	d := wideDecl()
	for c := range 256 {
		sign := string([]byte{byte(c)})
		for _, r := range []struct {
			text string
			good string
		}{{"x " + sign + " y", "+-*/%<>"}, {"b " + sign + " c", "&|"}, {"x " + sign, " "}, {sign + " x", " -"}, {sign + " b", " !"}, {"x <" + sign + " y", " =-"}, {"x =" + sign + " y", "="}, {"x !" + sign + " y", "="}, {"1" + sign, " 0123456789"}} {
			if _, ok := impl.ParseExpr(d, r.text); ok != (strings.IndexByte(r.good, byte(c)) >= 0) {
				t.Errorf("%q", r.text)
			}
		}
	}
}

func nest(open, inner, shut string, n int) string {
	return strings.Repeat(open, n) + inner + strings.Repeat(shut, n)
}

func TestDepthOfTexts(t *testing.T) {
	d := wideDecl()
	for n := 10; n <= 14; n++ {
		for _, r := range []struct {
			s    string
			deep int
		}{{nest("(", "x", ")", n), n}, {nest("a[", "x", "]", n), n}, {nest("-", "x", "", n), n}, {nest("!", "b", "", n), n}, {nest("- ", "x", " ", n), n}, {nest("!", "x<y", "", n), n}, {nest("(x+", "x", ")", n), n}, {nest("(", "x", ")", n-1) + "+" + nest("(", "y", ")", n), n}, {nest("(", "-x", ")", n-1), n}, {nest("(", "a[x]", ")", n-1), n}, {nest("-", "(x)", "", n-1), n}, {nest("a[", "-x", "]", n-1), n}, {nest("!", "-x<y", "", n-1), n}, {nest("!", "x < -y", "", n-1), n}, {nest("!", "b", "", n-1) + "&" + nest("!", "c", "", n), n}, {nest("(", nest("-", "x", "", 6), ")", n-6), n}, {nest("!", nest("(", "x<"+nest("a[", "1", "]", 4), ")", 4), "", n-8), n}, {nest("!(", "-a[x] < y", ")", n/2), n/2*2 + 2}, {nest("-", "x*y", "", n), n}, {"(" + nest("!", "b", "", n-1) + ")&!c", n}} {
			if _, ok := impl.ParseExpr(d, r.s); ok != (r.deep <= 12) {
				t.Errorf("%d: %q", r.deep, r.s)
			}
		}
	}
	many := strings.Repeat("(-x)+", 8) + "(-x)"
	if _, ok := impl.ParseExpr(d, many); !ok {
		t.Error("side by side")
	}
}

func TestDepthOfExpressions(t *testing.T) {
	d := wideDecl()
	grow := func(start, step string, n int) []impl.Tok { return post(start + strings.Repeat(" "+step, n)) }
	right := func(start, step string, n int) []impl.Tok {
		return post(strings.Repeat(start+" ", n+1) + strings.Repeat(" "+step, n))
	}
	for n := 9; n <= 14; n++ {
		for _, r := range []struct {
			l    []impl.Tok
			want int
		}{{grow("x", "neg", n), n}, {grow("b", "!", n), n}, {grow("x", "a", n), n}, {right("x", "-", n+1), n}, {right("b", "&", n+1), n}, {grow("x neg", "a", n-1), n}, {grow("x a", "neg", n-1), n}, {append(grow("x neg y <", "!", n-1), post("b &")...), n}, {append(post("b "), append(grow("x y <", "!", n), post("&")...)...), n}, {grow("x", "y + neg", n/2), n / 2 * 2}, {append(grow("x", "neg", n), post("y +")...), n}, {append(post("y"), append(grow("x", "neg", n), post("+")...)...), n}, {append(grow("x", "y +", n), post("1 *")...), 1}, {grow("x", "neg a", n/2), n / 2 * 2}} {
			s := impl.ExprText(d, r.l)
			if (s != "") != (r.want <= 12) || impl.ExprOk(d, r.l) == 0 {
				t.Errorf("%d: %v %q", n, r.l, s)
			}
			if back, ok := impl.ParseExpr(d, s); s != "" && (!ok || !slices.Equal(back, r.l)) {
				t.Errorf("%d: %q", n, s)
			}
		}
	}
	for _, r := range [][3]string{{"x neg", "+", "-x"}, {"x a", "*", "a[x]"}, {"b !", "|", "!b"}} {
		side := r[0] + strings.Repeat(" "+r[0]+" "+r[1], 12)
		checkText(t, d, post(side), r[2]+strings.Repeat(" "+r[1]+" "+r[2], 12))
	}
}

func TestLengthOfTexts(t *testing.T) {
	d := wideDecl()
	for _, mid := range []string{"x", "x + y"} {
		for _, side := range []string{" " + mid, mid + " ", "(" + mid + ")"} {
			gap := strings.Repeat(" ", 1200-len(side))
			s := strings.Replace(side, mid, mid+gap, 1)
			if _, ok := impl.ParseExpr(d, s); !ok || len(s) != 1200 {
				t.Errorf("1200: %q", side)
			}
			if _, ok := impl.ParseExpr(d, s+" "); ok {
				t.Errorf("1201: %q", side)
			}
		}
	}
	for n := 18; n <= 22; n++ {
		sum := strings.Repeat("1+", n-1) + "1"
		for i, s := range []string{sum, "-" + sum, "--" + sum} {
			if _, ok := impl.ParseExpr(d, s); ok != (2*n-1+i <= 40) {
				t.Error(n, i)
			}
		}
	}
	if _, ok := impl.ParseExpr(d, strings.Repeat("0", 1199)+"7"); !ok {
		t.Error("noughts")
	}
}

// someExpr is a right one for wideDecl, of the kind that is wanted.
func someExpr(r *rand.Rand, kind int64, deep int) []impl.Tok {
	pick := func(l ...string) string { return l[r.Intn(len(l))] }
	of := func(kind int64, op string, many int) []impl.Tok {
		var l []impl.Tok
		for range many {
			l = append(l, someExpr(r, kind, deep-1)...)
		}
		return append(l, post(op)...)
	}
	leaf := deep == 0 || r.Intn(6) == 0
	if kind == impl.KdNum {
		switch n := r.Intn(8); {
		case leaf:
			return post(pick("0", "7", "999999999999999999", "x", "y", "z", "longname", "inputs"))
		case n == 0:
			return of(impl.KdNum, pick("a", "endlessx"), 1)
		case n == 1:
			return of(impl.KdNum, "neg", 1)
		}
		return of(impl.KdNum, pick("+", "-", "*", "/", "%"), 2)
	}
	switch n := r.Intn(6); {
	case leaf:
		return post(pick("b", "c", "truer", "true", "false"))
	case n == 0:
		return of(impl.KdTruth, "!", 1)
	case n <= 2:
		return of(impl.KdNum, pick("<", "<=", "==", "!=", ">", ">="), 2)
	}
	return of(impl.KdTruth, pick("&", "|"), 2)
}

// Promise 3, and that no parentheses stand in a text that are not needed.
func TestExpressionsComeBack(t *testing.T) {
	d := wideDecl()
	check := func(l []impl.Tok) {
		s := impl.ExprText(d, l)
		if s == "" {
			return
		}
		back, ok := impl.ParseExpr(d, s)
		if !ok || !slices.Equal(back, l) {
			t.Fatalf("%v: %q: %v %v", l, s, back, ok)
		}
		for _, w := range withoutPairs(s) {
			if back, ok := impl.ParseExpr(d, w); ok && slices.Equal(back, l) {
				t.Fatalf("%q is %q", w, s)
			}
		}
	}
	eachList(post("1 x b true a neg + * < ! & |"), 5, check)
	r := rand.New(rand.NewSource(3))
	told := 0
	for range 20000 {
		l := someExpr(r, 1+r.Int63n(2), 1+r.Intn(5))
		check(l)
		if impl.ExprText(d, l) != "" {
			told++
		}
		if (impl.ExprOk(d, l) != 0) != (len(l) <= 40) {
			t.Fatal(l)
		}
	}
	if told < 10000 {
		t.Error("told only", told)
	}
}

// withoutPairs: the text without one pair of parentheses, for each.
func withoutPairs(s string) []string {
	var out []string
	var open []int
	for i, c := range s {
		switch c {
		case '(':
			open = append(open, i)
		case ')':
			j := open[len(open)-1]
			open = open[:len(open)-1]
			out = append(out, s[:j]+s[j+1:i]+s[i+1:])
		}
	}
	return out
}

func TestExpressionsOfWrongDeclarations(t *testing.T) {
	for _, d := range wrongDecls() {
		if impl.DeclOk(d) || impl.ExprOk(d, post("1")) != 0 || impl.ExprText(d, post("1")) != "" || impl.ExprOk(d, post("x")) != 0 {
			t.Error(d)
		}
		if l, ok := impl.ParseExpr(d, "1"); ok || len(l) > 0 {
			t.Error(d)
		}
	}
	for _, l := range [][]impl.Tok{nil, post("x y"), post("+"), post("x +"), post("b neg"), post("b x +"), post("x !"), slices.Repeat(post("1"), 41)} {
		if impl.ExprText(wideDecl(), l) != "" {
			t.Error(l)
		}
	}
}

// Promise 15, of this chapter.
func TestExpressionsLeaveArgumentsAlone(t *testing.T) {
	spare := append(make([]impl.Tok, 0, 9), post("x y + 1 < b &")...)
	behind := spare[:9]
	behind[7], behind[8] = impl.Tok{Op: 70, N: 7}, impl.Tok{Op: 80, N: 8}
	before := slices.Clone(behind)
	vars := []string{"x", "y", "keptv", "keptw"}
	flags := []string{"b", "keptf"}
	d := impl.Decl{Vars: vars[:2], Flags: flags[:1], Arrays: []impl.Arr{{Name: "a", Size: 2}}}
	for range 2 {
		if !impl.DeclOk(d) || impl.ExprOk(d, spare) != impl.KdTruth || impl.ExprText(d, spare) != "x + y < 1 & b" {
			t.Error("answers")
		}
		one, _ := impl.ParseExpr(d, "x + y < 1 & b")
		two, _ := impl.ParseExpr(d, "x + y < 1 & b")
		one[0] = impl.Tok{}
		if !slices.Equal(two, spare) {
			t.Error("memory")
		}
	}
	if !slices.Equal(behind, before) || !slices.Equal(vars, []string{"x", "y", "keptv", "keptw"}) || !slices.Equal(flags, []string{"b", "keptf"}) {
		t.Error("written")
	}
}
