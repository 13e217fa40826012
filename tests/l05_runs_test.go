package tests

import (
	"math/big"
	"math/rand"
	"slices"
	"testing"

	"loop.example/g00719/impl"
)

func sameStore(a, b impl.Store) bool {
	return slices.Equal(a.Ints, b.Ints) && slices.Equal(a.Flags, b.Flags) && slices.EqualFunc(a.Arrs, b.Arrs, slices.Equal)
}

func sameOut(a, b impl.Out) bool {
	return a.Code == b.Code && a.Line == b.Line && sameStore(a.Store, b.Store) && a.Steps == b.Steps && a.Used == b.Used
}

// wideStore is one of wideDecl, with these numbers of x, y and z, and truths of b and c; a[0] is 4, endlessx[i] is 10 i.
func wideStore(x, y, z int64, b, c bool) impl.Store {
	s := impl.Store{Ints: []int64{x, y, z, 0, 0}, Flags: []bool{b, c, false}, Arrs: [][]int64{{4}, make([]int64, 16)}}
	for i := range s.Arrs[1] {
		s.Arrs[1][i] = 10 * int64(i)
	}
	return s
}

func progOf(t *testing.T, src string) impl.Prog {
	t.Helper()
	p, line := impl.ParseProg(src)
	if line != 0 {
		t.Fatalf("%q: line %d", src, line)
	}
	return p
}

func TestStores(t *testing.T) {
	d := wideDecl()
	s := impl.StoreNew(d)
	if !impl.StoreOk(d, s) || !sameStore(s, impl.Store{Ints: make([]int64, 5), Flags: make([]bool, 3), Arrs: [][]int64{make([]int64, 1), make([]int64, 16)}}) {
		t.Error(s)
	}
	if !impl.StoreOk(d, wideStore(low, top, 0, true, true)) || !impl.StoreOk(impl.Decl{}, impl.Store{}) || !sameStore(impl.StoreNew(impl.Decl{}), impl.Store{}) {
		t.Error("right ones")
	}
	if !impl.StoreOk(impl.Decl{}, impl.Store{Ints: []int64{}, Flags: []bool{}, Arrs: [][]int64{}}) {
		t.Error("empty lists")
	}
	for i, s := range wrongStores() {
		if impl.StoreOk(d, s) {
			t.Error("wrong one", i)
		}
	}
	for _, d := range wrongDecls() {
		full := impl.Store{Ints: make([]int64, len(d.Vars)), Flags: make([]bool, len(d.Flags))}
		for _, a := range d.Arrays {
			full.Arrs = append(full.Arrs, make([]int64, a.Size))
		}
		if impl.StoreOk(d, full) || impl.StoreOk(d, impl.Store{}) || !sameStore(impl.StoreNew(d), impl.Store{}) {
			t.Error(d)
		}
	}
}

// wrongStores are none of wideDecl, each for one reason alone.
func wrongStores() []impl.Store {
	var l []impl.Store
	change := func(do func(s *impl.Store)) {
		s := wideStore(0, 0, 0, false, false)
		do(&s)
		l = append(l, s)
	}
	change(func(s *impl.Store) { s.Ints = s.Ints[:4] })
	change(func(s *impl.Store) { s.Ints = append(s.Ints, 0) })
	change(func(s *impl.Store) { s.Ints = nil })
	change(func(s *impl.Store) { s.Flags = s.Flags[:2] })
	change(func(s *impl.Store) { s.Flags = append(s.Flags, false) })
	change(func(s *impl.Store) { s.Flags = nil })
	change(func(s *impl.Store) { s.Arrs = s.Arrs[:1] })
	change(func(s *impl.Store) { s.Arrs = append(s.Arrs, []int64{0}) })
	change(func(s *impl.Store) { s.Arrs = nil })
	change(func(s *impl.Store) { s.Arrs[0] = nil })
	change(func(s *impl.Store) { s.Arrs[0] = make([]int64, 2) })
	change(func(s *impl.Store) { s.Arrs[1] = make([]int64, 15) })
	change(func(s *impl.Store) { s.Arrs[1] = make([]int64, 17) })
	change(func(s *impl.Store) { s.Arrs[0], s.Arrs[1] = s.Arrs[1], s.Arrs[0] })
	return append(l, impl.Store{})
}

// exactEval does the Toks one by one, with numbers that have no bounds; the expression and the store are right ones of wideDecl.
func exactEval(l []impl.Tok, s impl.Store) (int64, int64) {
	var pile []*big.Int
	truth := func(b bool) *big.Int {
		if b {
			return exact(1)
		}
		return exact(0)
	}
	signOf := map[int64]string{}
	for sign, op := range signOps {
		signOf[op] = sign
	}
	for _, tok := range l {
		take := func() *big.Int {
			n := pile[len(pile)-1]
			pile = pile[:len(pile)-1]
			return n
		}
		var n *big.Int
		switch sign := signOf[tok.Op]; {
		case tok.Op == impl.TkNum:
			n = exact(tok.N)
		case tok.Op == impl.TkVar:
			n = exact(s.Ints[tok.N])
		case tok.Op == impl.TkFlag:
			n = truth(s.Flags[tok.N])
		case sign == "true" || sign == "false":
			n = truth(sign == "true")
		case tok.Op == impl.TkAt:
			list, place := s.Arrs[tok.N], take()
			if place.Sign() < 0 || place.Cmp(exact(int64(len(list)))) >= 0 {
				return 0, impl.RnBounds
			}
			n = exact(list[place.Int64()])
		case sign == "neg":
			n = new(big.Int).Neg(take())
		case sign == "!":
			n = truth(take().Sign() == 0)
		default:
			right, left := take(), take()
			order := left.Cmp(right)
			switch sign {
			case "&":
				n = truth(left.Sign() > 0 && right.Sign() > 0)
			case "|":
				n = truth(left.Sign() > 0 || right.Sign() > 0)
			case "<", "<=", ">", ">=", "==", "!=":
				is := map[int]string{-1: "<", 0: "==", 1: ">"}[order]
				n = truth(is == sign || sign == "!=" && order != 0 || len(sign) == 2 && sign != "!=" && (order == 0 || sign[:1] == is))
			default:
				if right.Sign() == 0 && (sign == "/" || sign == "%") {
					return 0, impl.RnDiv
				}
				n = exactOps[sign](left, right)
			}
		}
		if !n.IsInt64() {
			return 0, impl.RnOver
		}
		pile = append(pile, n)
	}
	return pile[0].Int64(), impl.RnOk
}

func checkEval(t *testing.T, l []impl.Tok, s impl.Store) int64 {
	t.Helper()
	n, code := impl.Eval(wideDecl(), l, s)
	if wantN, wantCode := exactEval(l, s); n != wantN || code != wantCode {
		t.Fatalf("%q %v: %d %d, not %d %d", impl.ExprText(wideDecl(), l), s, n, code, wantN, wantCode)
	}
	return code
}

func TestEvalAtItsEdges(t *testing.T) {
	const over, div, bounds = impl.RnOver, impl.RnDiv, impl.RnBounds
	d := wideDecl()
	for _, r := range []struct {
		words         string
		x, y, n, code int64
	}{
		{"x 1 +", top - 1, 0, top, 0}, {"x 1 +", top, 0, 0, over}, {"x y +", low, -1, 0, over}, {"x y +", low, top, -1, 0}, {"x y +", low + 1, -1, low, 0},
		{"x 1 -", low + 1, 0, low, 0}, {"x 1 -", low, 0, 0, over}, {"x y -", 0, low, 0, over}, {"x y -", -1, low, top, 0}, {"x y -", top, -1, 0, over},
		{"x y *", 1 << 62, 2, 0, over}, {"x y *", 1 << 62, -2, low, 0}, {"x y *", low, -1, 0, over}, {"x y *", low, 1, low, 0}, {"x y *", top, top, 0, over}, {"x y *", low, 0, 0, 0},
		{"x y /", low, -1, 0, over}, {"x y /", low, 1, low, 0}, {"x y /", top, -1, -top, 0}, {"x y /", -7, 2, -3, 0}, {"x y /", 7, -2, -3, 0}, {"x y /", 7, 0, 0, div}, {"x y /", 0, 0, 0, div}, {"x y /", low, 0, 0, div}, {"x y /", 0, low, 0, 0},
		{"x y %", low, -1, 0, 0}, {"x y %", -7, 2, -1, 0}, {"x y %", 7, -2, 1, 0}, {"x y %", 7, 0, 0, div}, {"x y %", 0, 0, 0, div}, {"x y %", low, 0, 0, div}, {"x y %", top, low, top, 0},
		{"x neg", low, 0, 0, over}, {"x neg", low + 1, 0, top, 0}, {"x neg", top, 0, low + 1, 0}, {"x neg", 0, 0, 0, 0},
		{"x a", 0, 0, 4, 0}, {"x a", 1, 0, 0, bounds}, {"x a", -1, 0, 0, bounds}, {"x a", low, 0, 0, bounds}, {"x a", top, 0, 0, bounds},
		{"x endlessx", 0, 0, 0, 0}, {"x endlessx", 1, 0, 10, 0}, {"x endlessx", 15, 0, 150, 0}, {"x endlessx", 16, 0, 0, bounds}, {"x endlessx", -1, 0, 0, bounds}, {"x endlessx", 1 << 32, 0, 0, bounds},
		{"0 a endlessx", 0, 0, 40, 0}, {"1 endlessx endlessx", 0, 0, 100, 0}, {"2 endlessx endlessx", 0, 0, 0, bounds},
		{"x", low, 0, low, 0}, {"999999999999999999", 0, 0, impl.MaxNum, 0}, {"true", 0, 0, 1, 0}, {"false", 0, 0, 0, 0}, {"b", 0, 0, 1, 0}, {"c", 0, 0, 0, 0}, {"b !", 0, 0, 0, 0}, {"c !", 0, 0, 1, 0},
		{"x y <", low, top, 1, 0}, {"x y <", top, low, 0, 0}, {"x y <=", low, low, 1, 0}, {"x y ==", low, top, 0, 0}, {"x y !=", low, top, 1, 0}, {"x y >=", top, low, 1, 0}, {"x y >", top, top, 0, 0},
		// One side would settle it, the other goes wrong.
		{"c 1 0 / 0 == &", 0, 0, 0, div}, {"1 0 / 0 == c &", 0, 0, 0, div}, {"b 1 0 % 0 == |", 0, 0, 0, div}, {"1 0 % 0 == b |", 0, 0, 0, div},
		{"false x a 0 == &", 9, 0, 0, bounds}, {"x a 0 == true |", 9, 0, 0, bounds}, {"true x 1 + 0 > |", top, 0, 0, over}, {"x 1 + 0 > false &", top, 0, 0, over},
		// What is multiplied by 0, or is compared with itself, goes wrong as well.
		{"0 1 0 / *", 0, 0, 0, div}, {"x neg x neg -", low, 0, 0, over},
		// Two go wrong: the first in the order of the Toks is told.
		{"1 0 / x a +", 9, 0, 0, div}, {"x a 1 0 / +", 9, 0, 0, bounds}, {"x 1 + x a +", top, 0, 0, over}, {"x a x 1 + +", top, 0, 0, bounds}, {"x neg 0 /", low, 0, 0, over}, {"1 0 % neg a", 0, 0, 0, div}, {"x a endlessx", 5, 0, 0, bounds}, {"x 1 + y / z %", top, 0, 0, over}, {"z y / x 1 + %", top, 0, 0, div},
		{"1 0 / 0 == x a 0 == &", 9, 0, 0, div}, {"x a 0 == 1 0 / 0 == |", 9, 0, 0, bounds},
	} {
		s := wideStore(r.x, r.y, 0, true, false)
		if n, code := impl.Eval(d, post(r.words), s); n != r.n || code != r.code {
			t.Error(r, n, code)
		}
		checkEval(t, post(r.words), s)
	}
}

func TestEvalIsExact(t *testing.T) {
	codes := map[int64]int{}
	check := func(l []impl.Tok, s impl.Store) { codes[checkEval(t, l, s)]++ }
	for _, x := range edgeNumbers() {
		for _, y := range edgeNumbers() {
			for _, words := range []string{"x y +", "x y -", "x y *", "x y /", "x y %", "x y <", "x y <=", "x y ==", "x y !=", "x y >", "x y >="} {
				check(post(words), wideStore(x, y, 0, false, false))
			}
		}
		check(post("x neg"), wideStore(x, 0, 0, false, false))
		check(post("x endlessx"), wideStore(x, 0, 0, false, false))
	}
	for _, b := range []bool{false, true} {
		for _, c := range []bool{false, true} {
			for _, words := range []string{"b c &", "b c |", "b !", "b c & !", "b ! c |"} {
				check(post(words), wideStore(0, 0, 0, b, c))
			}
		}
	}
	eachList(post("0 x b endlessx neg + / < ! & |"), 5, func(l []impl.Tok) {
		if kindOfToks(l) != 0 {
			check(l, wideStore(top, 0, 0, true, false))
			check(l, wideStore(-1, 0, 0, false, false))
		}
	})
	r := rand.New(rand.NewSource(5))
	few := fewNumbers()
	for range 20000 {
		l := someExpr(r, 1+r.Int63n(2), 1+r.Intn(4))
		s := wideStore(few[r.Intn(len(few))], r.Int63n(9)-4, few[r.Intn(len(few))], r.Intn(2) == 0, r.Intn(2) == 0)
		if kindOfToks(l) != 0 {
			check(l, s)
		}
	}
	for _, code := range []int64{impl.RnOk, impl.RnDiv, impl.RnBounds, impl.RnOver} {
		if codes[code] < 300 {
			t.Error("code", code, "came", codes[code], "times")
		}
	}
}

func TestEvalOfWhatIsWrong(t *testing.T) {
	d := wideDecl()
	right := wideStore(1, 2, 3, true, true)
	for i, s := range wrongStores() {
		if n, code := impl.Eval(d, post("7"), s); n != 0 || code != impl.RnForm {
			t.Error("store", i, n, code)
		}
	}
	for _, l := range [][]impl.Tok{nil, post("x y"), post("+"), post("b neg"), post("x !"), post("1 b +"), post("b c <"), post("b a"), {{Op: 22}}, {{Op: impl.TkVar, N: 5}}, {{Op: impl.TkVar, N: -1}}, {{Op: impl.TkFlag, N: 3}}, {{Op: impl.TkNum, N: -1}}, {{Op: impl.TkNum}, {Op: impl.TkAt, N: 2}}, append(post("1"), slices.Repeat(post("neg"), 40)...)} {
		if n, code := impl.Eval(d, l, right); n != 0 || code != impl.RnForm {
			t.Error(l, n, code)
		}
	}
	if n, code := impl.Eval(d, append(post("1"), slices.Repeat(post("neg"), 39)...), right); n != -1 || code != impl.RnOk {
		t.Error("40 Toks", n, code)
	}
	for _, d := range wrongDecls() {
		s := impl.Store{Ints: make([]int64, len(d.Vars)), Flags: make([]bool, len(d.Flags)), Arrs: make([][]int64, len(d.Arrays))}
		if n, code := impl.Eval(d, post("7"), s); n != 0 || code != impl.RnForm {
			t.Error(d, n, code)
		}
	}
	if n, code := impl.Eval(impl.Decl{}, post("7"), impl.Store{}); n != 7 || code != impl.RnOk {
		t.Error("without names", n, code)
	}
}

// plainRun goes through the blocks of a right program of wideDecl one in the other, without targets.
type plainRun struct {
	p      impl.Prog
	inputs []int64
	fuel   int64
	out    impl.Out
}

func runPlainly(p impl.Prog, inputs []int64, fuel int64) impl.Out {
	r := plainRun{p: p, inputs: inputs, fuel: fuel}
	r.out.Store = impl.Store{Ints: make([]int64, 5), Flags: make([]bool, 3), Arrs: [][]int64{make([]int64, 1), make([]int64, 16)}}
	if end, ok := r.lines(0); ok {
		r.out.Line = end
	}
	return r.out
}

func (r *plainRun) halt(at, code int64) bool {
	r.out.Line, r.out.Code = at, code
	return false
}

// pay makes the step of a line, where there is fuel for it.
func (r *plainRun) pay(at int64) bool {
	if r.out.Steps == r.fuel {
		return r.halt(at, impl.RnFuel)
	}
	r.out.Steps++
	return true
}

func (r *plainRun) value(at int64, l []impl.Tok) (int64, bool) {
	n, code := exactEval(l, r.out.Store)
	return n, code == impl.RnOk || r.halt(at, code)
}

// lines goes on till an LnElse, an LnEnd or the end of all, which it tells.
func (r *plainRun) lines(at int64) (int64, bool) {
	for at < int64(len(r.p.Lines)) {
		l := r.p.Lines[at]
		ok := true
		switch l.Kind {
		case impl.LnElse, impl.LnEnd:
			return at, true
		case impl.LnIf, impl.LnFork:
			at, ok = r.branch(at)
		case impl.LnWhile, impl.LnUnroll:
			at, ok = r.loop(at)
		default:
			ok = r.pay(at) && r.plain(at, l)
			at++
		}
		if !ok {
			return at, false
		}
	}
	return at, true
}

// leave is where the block that is open at a line has its LnElse or LnEnd.
func (r *plainRun) leave(at int64) int64 {
	for deep := 0; ; at++ {
		switch kind := r.p.Lines[at].Kind; {
		case opens(kind):
			deep++
		case deep == 0 && (kind == impl.LnElse || kind == impl.LnEnd):
			return at
		case kind == impl.LnEnd:
			deep--
		}
	}
}

func (r *plainRun) branch(at int64) (int64, bool) {
	if !r.pay(at) {
		return at, false
	}
	holds, ok := r.value(at, r.p.Lines[at].E)
	if !ok {
		return at, false
	}
	from := at + 1
	turn := r.leave(from)
	end := turn
	if r.p.Lines[turn].Kind == impl.LnElse {
		end = r.leave(turn + 1)
		if holds == 0 {
			from = turn + 1
		}
	} else if holds == 0 {
		from = end
	}
	left, ok := r.lines(from)
	if ok && left < end {
		ok = r.pay(left)
	}
	return end + 1, ok && r.pay(end)
}

func (r *plainRun) loop(at int64) (int64, bool) {
	end := r.leave(at + 1)
	for r.pay(at) {
		holds, ok := r.value(at, r.p.Lines[at].E)
		if !ok || holds == 0 {
			return end + 1, ok
		}
		if _, ok := r.lines(at + 1); !ok || !r.pay(end) {
			return at, false
		}
	}
	return at, false
}

func (r *plainRun) plain(at int64, l impl.Line) bool {
	s := &r.out.Store
	switch l.Kind {
	case impl.LnSet:
		n, ok := r.value(at, l.E)
		if ok {
			s.Ints[l.V] = n
		}
		return ok
	case impl.LnFlag:
		n, ok := r.value(at, l.E)
		if ok {
			s.Flags[l.V] = n != 0
		}
		return ok
	case impl.LnStore:
		i, ok := r.value(at, l.I)
		if !ok {
			return false
		}
		n, ok := r.value(at, l.E)
		if !ok {
			return false
		}
		if i < 0 || i >= int64(len(s.Arrs[l.V])) {
			return r.halt(at, impl.RnBounds)
		}
		s.Arrs[l.V][i] = n
	case impl.LnInput:
		s.Ints[l.V] = l.Lo
		if left := r.inputs[r.out.Used:]; len(left) > 0 {
			r.out.Used++
			// Mod of a big.Int is never below 0.
			rest := new(big.Int).Mod(exact(left[0]), exact(l.Hi-l.Lo+1))
			s.Ints[l.V] += rest.Int64()
		}
	case impl.LnAssert, impl.LnAssume:
		holds, ok := r.value(at, l.E)
		if ok && holds == 0 {
			return r.halt(at, map[int64]int64{impl.LnAssert: impl.RnAssert, impl.LnAssume: impl.RnAssume}[l.Kind])
		}
		return ok
	}
	return true
}

func checkRun(t *testing.T, p impl.Prog, inputs []int64, fuel int64) impl.Out {
	t.Helper()
	out, want := impl.Run(p, inputs, fuel), runPlainly(p, inputs, fuel)
	if !sameOut(out, want) {
		t.Fatalf("%s%v %d: %v, not %v", impl.ProgText(p), inputs, fuel, out, want)
	}
	return out
}

func TestRunsOfEachKindOfLine(t *testing.T) {
	type row struct {
		src                     string
		inputs                  []int64
		code, line, steps, used int64
		x, y                    int64
	}
	for _, r := range []row{
		{"", nil, impl.RnOk, 0, 0, 0, 0, 0},
		{"x = 3\ny = x * x\n", nil, impl.RnOk, 2, 2, 0, 3, 9},
		{"b = x == 0\nif b\nx = 1\nelse\nx = 2\nend\n", nil, impl.RnOk, 6, 5, 0, 1, 0},
		{"if b\nx = 1\nelse\nx = 2\nend\n", nil, impl.RnOk, 5, 3, 0, 2, 0},
		{"if b\nx = 1\nend\ny = 5\n", nil, impl.RnOk, 4, 3, 0, 0, 5},
		{"fork !b\nx = 1\nelse\nx = 2\nend\n", nil, impl.RnOk, 5, 4, 0, 1, 0},
		{"fork b\nend\n", nil, impl.RnOk, 2, 2, 0, 0, 0},
		{"while x < 3\nx = x + 1\nend\n", nil, impl.RnOk, 3, 10, 0, 3, 0},
		{"while b\nx = x + 1\nend\ny = 1\n", nil, impl.RnOk, 4, 2, 0, 0, 1},
		{"unroll 1 x < 5\nx = x + 2\nend\n", nil, impl.RnOk, 3, 10, 0, 6, 0},
		{"endlessx[15] = 7\na[0] = endlessx[15] - 1\nx = a[0]\ny = endlessx[0]\n", nil, impl.RnOk, 4, 4, 0, 6, 0},
		{"split x 0 3\nmerge\nsplit y 5 5\n", nil, impl.RnOk, 3, 3, 0, 0, 0},
		{"assert x == 0\nassume true\nassert !(x != y)\n", nil, impl.RnOk, 3, 3, 0, 0, 0},
		{"x = 1\nassert x == 0\nx = 2\n", nil, impl.RnAssert, 1, 2, 0, 1, 0},
		{"x = 1\nassume x == 0\nx = 2\n", nil, impl.RnAssume, 1, 2, 0, 1, 0},
		{"x = 1\nassert 1 / y == 0\n", nil, impl.RnDiv, 1, 2, 0, 1, 0},
		{"assume a[x - 1] == 0\n", nil, impl.RnBounds, 0, 1, 0, 0, 0},
		{"x = 7\nx = x / y\n", nil, impl.RnDiv, 1, 2, 0, 7, 0},
		{"x = 7\nx = x % y\n", nil, impl.RnDiv, 1, 2, 0, 7, 0},
		{"x = 999999999999999999\nx = x * 10\n", nil, impl.RnOver, 1, 2, 0, impl.MaxNum, 0},
		{"x = 999999999999999999\nx = x * 9 + 223372036854775807 + 9\nb = -(-x - 1) > 0\n", nil, impl.RnOver, 2, 3, 0, top, 0},
		{"b = true & endlessx[16] == 0\n", nil, impl.RnBounds, 0, 1, 0, 0, 0},
		{"if a[1] == 0\nend\n", nil, impl.RnBounds, 0, 1, 0, 0, 0},
		{"fork 0 / x == 0\nend\n", nil, impl.RnDiv, 0, 1, 0, 0, 0},
		{"x = 2\nwhile 4 / x > 0\nx = x - 1\nend\n", nil, impl.RnDiv, 1, 8, 0, 0, 0},
		{"x = 2\nunroll 3 4 % x >= 0\nx = x - 1\nend\n", nil, impl.RnDiv, 1, 8, 0, 0, 0},
		{"while true\nend\n", nil, impl.RnFuel, 0, 2000, 0, 0, 0},
		{"while true\nx = x + 1\nend\n", nil, impl.RnFuel, 2, 2000, 0, 667, 0},
		{"unroll 2 x >= 0\nx = x + 1\nassume y == 0\nend\n", nil, impl.RnFuel, 0, 2000, 0, 500, 0},
		{"x = input 1 6\ny = input 1 6\n", []int64{7, 4, 9}, impl.RnOk, 2, 2, 2, 2, 5},
		{"x = input 1 6\ny = input 2 6\n", []int64{7}, impl.RnOk, 2, 2, 1, 2, 2},
		{"x = input 4 4\ny = input 1 6\n", []int64{99, 3}, impl.RnOk, 2, 2, 2, 4, 4},
		{"x = input 1 6\nx = x / y\ny = input 1 6\n", []int64{3, 3}, impl.RnDiv, 1, 2, 1, 4, 0},
		{"while true\nx = input 0 9\nend\n", []int64{1, 2, 3}, impl.RnFuel, 2, 2000, 3, 0, 0},
	} {
		p := progOf(t, wideHead+r.src)
		out := checkRun(t, p, r.inputs, 2000)
		if out.Code != r.code || out.Line != r.line || out.Steps != r.steps || out.Used != r.used || out.Store.Ints[0] != r.x || out.Store.Ints[1] != r.y {
			t.Errorf("%q: %v", r.src, out)
		}
	}
}

func TestWhichOfTwoFaultsAStoreTells(t *testing.T) {
	for _, r := range []struct {
		src        string
		code, want int64
	}{
		{"a[1 / x] = endlessx[16]\n", impl.RnDiv, 0},
		{"a[endlessx[16]] = 1 / x\n", impl.RnBounds, 0},
		{"a[9] = 1 / x\n", impl.RnDiv, 0},
		{"a[-1] = 999999999999999999 * 10\n", impl.RnOver, 0},
		{"a[999999999999999999 * 10] = 1 / x\n", impl.RnOver, 0},
		{"a[1] = 5\n", impl.RnBounds, 0},
		{"a[-1] = 5\n", impl.RnBounds, 0},
		{"a[0] = 5\n", impl.RnOk, 5},
		{"a[a[0]] = 5\n", impl.RnOk, 5},
		{"endlessx[16] = 5\n", impl.RnBounds, 0},
		{"endlessx[-1] = 5\n", impl.RnBounds, 0},
		{"endlessx[0] = 5\na[0] = endlessx[0]\n", impl.RnOk, 5},
		{"endlessx[15] = 5\na[0] = endlessx[15]\n", impl.RnOk, 5},
	} {
		out := checkRun(t, progOf(t, wideHead+r.src), nil, 9)
		if out.Code != r.code || out.Store.Arrs[0][0] != r.want {
			t.Error(r, out)
		}
	}
}

func TestInputsAreLaidInto(t *testing.T) {
	const m = impl.MaxNum
	for _, r := range []struct{ lo, hi, in, want int64 }{
		{0, 9, 0, 0}, {0, 9, 9, 9}, {0, 9, 10, 0}, {0, 9, 25, 5}, {0, 9, -1, 9}, {0, 9, -10, 0}, {0, 9, -11, 9}, {0, 9, top, 7}, {0, 9, low, 2},
		{-3, 3, 0, -3}, {-3, 3, 6, 3}, {-3, 3, 7, -3}, {-3, 3, -1, 3}, {-3, 3, -7, -3}, {5, 7, 1, 6}, {5, 7, -1, 7}, {-9, -8, 1, -8}, {-9, -8, -1, -8},
		{4, 4, 0, 4}, {4, 4, 7, 4}, {4, 4, low, 4}, {4, 4, top, 4}, {4, 4, -1, 4},
		{-m, m, 0, -m}, {-m, m, -1, m}, {-m, m, 2 * m, m}, {-m, m, 2*m + 1, -m}, {-m, m, -2*m - 1, -m}, {-m, m, m, 0}, {m, m, 5, m}, {-m, -m, -5, -m}, {0, m, -1, m}, {-m, 0, -1, 0},
		{-m, m, top, -m + top - 4*(2*m+1)}, {-m, m, low, -m + low + 5*(2*m+1)},
	} {
		p := impl.Prog{D: wideDecl(), Lines: []impl.Line{{Kind: impl.LnInput, Lo: r.lo, Hi: r.hi}}}
		out := checkRun(t, p, []int64{r.in}, 1)
		if out.Code != impl.RnOk || out.Used != 1 || out.Store.Ints[0] != r.want {
			t.Error(r, out)
		}
		if out := checkRun(t, p, nil, 1); out.Code != impl.RnOk || out.Used != 0 || out.Store.Ints[0] != r.lo {
			t.Error("none", r, out)
		}
	}
	for _, n := range edgeNumbers() {
		for _, hi := range []int64{-5, -4, 0, 1, 1 << 31, m} {
			checkRun(t, impl.Prog{D: wideDecl(), Lines: []impl.Line{{Kind: impl.LnInput, V: 3, Lo: -5, Hi: hi}}}, []int64{n}, 1)
		}
	}
}

func TestFuelAndInputsHaveLimits(t *testing.T) {
	p := progOf(t, wideHead+"while true\nx = input 0 9\nend\n")
	ones := func(n int) []int64 { return slices.Repeat([]int64{1}, n) }
	for _, r := range []struct {
		fuel   int64
		inputs int
		form   bool
		used   int64
	}{{0, 0, false, 0}, {0, 1000, false, 0}, {2000, 1000, false, 667}, {2001, 0, true, 0}, {-1, 0, true, 0}, {low, 0, true, 0}, {top, 0, true, 0}, {2000, 1001, true, 0}, {0, 1001, true, 0}, {2000, 666, false, 666}, {2000, 667, false, 667}, {1, 1000, false, 0}, {2, 1000, false, 1}} {
		out := impl.Run(p, ones(r.inputs), r.fuel)
		if r.form {
			if !sameOut(out, impl.Out{Code: impl.RnForm}) {
				t.Error(r, out)
			}
			continue
		}
		if out.Code != impl.RnFuel || out.Steps != r.fuel || out.Used != r.used || !sameOut(out, checkRun(t, p, ones(r.inputs), r.fuel)) {
			t.Error(r, out)
		}
	}
	all := progOf(t, wideHead+"while y < 660\nx = input 0 9\ny = y + 1\nend\n")
	for _, n := range []int{499, 500, 999, 1000} {
		out := checkRun(t, all, ones(n), 2000)
		if out.Used != min(int64(n), 500) {
			t.Error(n, out)
		}
	}
	none := impl.Prog{}
	for _, fuel := range []int64{0, 1, 2000} {
		if out := impl.Run(none, nil, fuel); !sameOut(out, impl.Out{}) {
			t.Error(fuel, out)
		}
	}
	if out := impl.Run(none, nil, 2001); out.Code != impl.RnForm {
		t.Error(out)
	}
	asks := progOf(t, "assert true\nassume !false\nmerge\nif 1 < 2\nend\n")
	if out := impl.Run(asks, []int64{4}, 5); !sameOut(out, impl.Out{Line: 5, Steps: 5}) {
		t.Error(out)
	}
}

func TestRunsOfWhatIsWrong(t *testing.T) {
	form := impl.Out{Code: impl.RnForm}
	set := impl.Line{Kind: impl.LnSet, E: post("1")}
	for i, lines := range [][]impl.Line{{{}}, {{Kind: 15}}, {{Kind: -1}}, {set, {Kind: impl.LnEnd}}, {{Kind: impl.LnElse}}, {{Kind: impl.LnIf, E: post("b")}}, {{Kind: impl.LnWhile, E: post("b")}, {Kind: impl.LnElse}, {Kind: impl.LnEnd}}, {{Kind: impl.LnSet, V: 5, E: post("1")}}, {{Kind: impl.LnSet}}, {{Kind: impl.LnSet, E: post("b")}}, {{Kind: impl.LnFlag, E: post("1")}}, {{Kind: impl.LnStore, E: post("1")}}, {{Kind: impl.LnInput, Lo: 1}}, {{Kind: impl.LnInput, Hi: impl.MaxNum + 1}}, {{Kind: impl.LnSplit, Hi: 4}}, slices.Repeat([]impl.Line{set}, 31), {set, {Kind: impl.LnMerge, Lo: 1}}} {
		p := impl.Prog{D: wideDecl(), Lines: lines}
		if out := impl.Run(p, nil, 2000); !sameOut(out, form) {
			t.Error(i, out)
		}
	}
	for _, d := range wrongDecls() {
		if !sameOut(impl.Run(impl.Prog{D: d}, nil, 9), form) || !sameOut(impl.Run(impl.Prog{D: d, Lines: []impl.Line{{Kind: impl.LnMerge}}}, nil, 9), form) {
			t.Error(d)
		}
	}
	if out := impl.Run(impl.Prog{D: wideDecl(), Lines: slices.Repeat([]impl.Line{set}, 30)}, nil, 30); out.Code != impl.RnOk || out.Line != 30 || out.Steps != 30 {
		t.Error("30 lines", out)
	}
}

// otherInputs keeps those that were used, and has whatever else behind them.
func otherInputs(r *rand.Rand, inputs []int64, used int64) []int64 {
	l := slices.Clone(inputs[:used])
	for range r.Intn(4) {
		l = append(l, r.Int63()-1<<62)
	}
	return l
}

// likelyProg goes farther, as most of its lines do not go wrong.
func likelyProg(r *rand.Rand) impl.Prog {
	p := someProg(r)
	for i, l := range p.Lines {
		if l.Kind == impl.LnStore && r.Intn(3) > 0 {
			p.Lines[i].I = post("0")
		}
		if (l.Kind == impl.LnAssert || l.Kind == impl.LnAssume) && r.Intn(3) > 0 {
			p.Lines[i].E = post("x y < y x <= |")
		}
		if l.Kind == impl.LnWhile || l.Kind == impl.LnUnroll {
			p.Lines[i].E = post([]string{"x 5 <", "y 3 <", "b !", "c x 7 < &"}[r.Intn(4)])
		}
		if l.Kind == impl.LnSet && r.Intn(2) == 0 {
			p.Lines[i].E = post([]string{"x 1 +", "y 2 +", "z x *", "x y -", "x 10 + 999999999999999999 *"}[r.Intn(5)])
		}
	}
	return p
}

// Promise 5.
func TestMoreFuelAndOtherInputs(t *testing.T) {
	r := rand.New(rand.NewSource(55))
	codes := map[int64]int{}
	left, ran := 0, 0
	for i := range 3000 {
		p := someProg(r)
		if i%3 > 0 {
			p = likelyProg(r)
		}
		var inputs []int64
		for range r.Intn(6) {
			inputs = append(inputs, r.Int63n(40)-20)
		}
		out := checkRun(t, p, inputs, 300)
		codes[out.Code]++
		if out.Used < int64(len(inputs)) {
			left++
			if other := otherInputs(r, inputs, out.Used); !sameOut(out, impl.Run(p, other, 300)) {
				t.Fatalf("%s%v %v", impl.ProgText(p), inputs, other)
			}
			if other := inputs[:out.Used]; !sameOut(out, impl.Run(p, other, 300)) {
				t.Fatalf("%s%v %v", impl.ProgText(p), inputs, other)
			}
		} else if out.Used > 0 {
			ran++
		}
		for fuel := int64(0); fuel <= 12; fuel++ {
			checkRun(t, p, inputs, fuel)
		}
		for _, fuel := range []int64{out.Steps, out.Steps + 1, 301, 2000} {
			more := impl.Run(p, inputs, fuel)
			if out.Code != impl.RnFuel && !sameOut(more, out) {
				t.Fatalf("%s%v %d: %v, not %v", impl.ProgText(p), inputs, fuel, more, out)
			}
		}
		if out.Steps > 0 && out.Code != impl.RnFuel {
			less := checkRun(t, p, inputs, out.Steps-1)
			if less.Code != impl.RnFuel || less.Steps != out.Steps-1 {
				t.Fatalf("%s%v: %v", impl.ProgText(p), inputs, less)
			}
		}
	}
	for code := range int64(8) {
		if code != impl.RnForm && codes[code] < 20 {
			t.Error("code", code, "came", codes[code], "times")
		}
	}
	if left < 100 || ran < 100 {
		t.Error("inputs left, or none left:", left, ran)
	}
}

// Promise 15, of this chapter.
func TestRunsShareNothing(t *testing.T) {
	d := wideDecl()
	one, two := impl.StoreNew(d), impl.StoreNew(d)
	// What is written behind a list, or into it, stays out of all others.
	one.Arrs[0] = append(one.Arrs[0], 77)
	one.Arrs[1][0], one.Ints[0], one.Flags[0] = 78, 79, true
	one.Ints = append(one.Ints, 80)
	if one.Arrs[0][1] != 77 || one.Arrs[1][0] != 78 || !sameStore(two, impl.Store{Ints: make([]int64, 5), Flags: make([]bool, 3), Arrs: [][]int64{make([]int64, 1), make([]int64, 16)}}) {
		t.Error("stores", one, two)
	}
	src := wideHead + "x = input 0 9\nendlessx[x] = x\nwhile x < 12\nx = x + 1\nend\nb = x > 3\n"
	p := progOf(t, src)
	spare := []int64{5, 6, 7, 8}
	inputs := spare[:2]
	first := impl.Run(p, inputs, 100)
	kept := impl.Run(p, inputs, 100)
	first.Store.Ints[0], first.Store.Flags[0], first.Store.Arrs[1][5] = -1, false, -1
	first.Store.Arrs[0] = append(first.Store.Arrs[0], -1)
	if again := impl.Run(p, inputs, 100); !sameOut(again, kept) || again.Code != impl.RnOk || again.Store.Arrs[1][5] != 5 {
		t.Error("runs", again, kept)
	}
	if !slices.Equal(spare, []int64{5, 6, 7, 8}) || impl.ProgText(p) != src {
		t.Error("written into")
	}
	s := wideStore(3, 4, 5, true, false)
	before := wideStore(3, 4, 5, true, false)
	for _, words := range []string{"x y +", "x endlessx", "x neg", "b c & !", "1 0 /"} {
		l := post(words)
		impl.Eval(d, l, s)
		if !sameStore(s, before) || !slices.Equal(l, post(words)) || !impl.StoreOk(d, s) {
			t.Error(words)
		}
	}
	if !sameDecl(d, wideDecl()) {
		t.Error("declaration")
	}
}
