package tests

import (
	"math/big"
	"math/rand"
	"slices"
	"testing"

	"loop.example/g00719/impl"
)

var comparisons = []int64{impl.TkLt, impl.TkLe, impl.TkEq, impl.TkNe, impl.TkGt, impl.TkGe}

// noComparisons are none of these, those next to them and far ones among them.
var noComparisons = []int64{low, -13, -1, 0, impl.TkNum, impl.TkRem, impl.TkNot, impl.TkAnd, impl.TkOr, 22, 13 + 1<<32, top}

func compares(op, x, y int64) bool {
	switch op {
	case impl.TkLt:
		return x < y
	case impl.TkLe:
		return x < y || x == y
	case impl.TkEq:
		return x == y
	case impl.TkNe:
		return x < y || x > y
	case impl.TkGt:
		return x > y
	}
	return x > y || x == y
}

// plainCompare asks numbers that settle it: the ends, and those of one interval that the other one has.
func plainCompare(op int64, a, b impl.Interval) impl.Interval {
	all, some := true, false
	for _, x := range []int64{a.Lo, a.Hi, b.Lo, b.Hi} {
		for _, y := range []int64{a.Lo, a.Hi, b.Lo, b.Hi} {
			if impl.IvHas(a, x) && impl.IvHas(b, y) {
				holds := compares(op, x, y)
				all, some = all && holds, some || holds
			}
		}
	}
	switch {
	case all:
		return iv(1, 1)
	case some:
		return iv(0, 1)
	}
	return iv(0, 0)
}

// plainRefine works without bounds, so that what is next to an end of int64 is there.
func plainRefine(op int64, a, b impl.Interval) (impl.Interval, bool) {
	lo, hi := exact(a.Lo), exact(a.Hi)
	less := func(n *big.Int) *big.Int { return new(big.Int).Sub(n, exact(1)) }
	more := func(n *big.Int) *big.Int { return new(big.Int).Add(n, exact(1)) }
	up := func(n *big.Int) {
		if n.Cmp(lo) > 0 {
			lo = n
		}
	}
	down := func(n *big.Int) {
		if n.Cmp(hi) < 0 {
			hi = n
		}
	}
	switch op {
	case impl.TkLt:
		down(less(exact(b.Hi)))
	case impl.TkLe:
		down(exact(b.Hi))
	case impl.TkGt:
		up(more(exact(b.Lo)))
	case impl.TkGe:
		up(exact(b.Lo))
	case impl.TkEq:
		down(exact(b.Hi))
		up(exact(b.Lo))
	case impl.TkNe:
		if b.Lo == b.Hi && b.Lo == a.Lo {
			up(more(exact(b.Lo)))
		} else if b.Lo == b.Hi && b.Lo == a.Hi {
			down(less(exact(b.Lo)))
		}
	}
	if lo.Cmp(hi) > 0 {
		return impl.Interval{}, false
	}
	return iv(lo.Int64(), hi.Int64()), true
}

func TestCompareAtItsEdges(t *testing.T) {
	type row struct {
		a, b                   impl.Interval
		lt, le, eq, ne, gt, ge impl.Interval
	}
	no, yes, maybe := iv(0, 0), iv(1, 1), iv(0, 1)
	for _, r := range []row{
		// Apart, with a gap and without one.
		{iv(1, 2), iv(4, 5), yes, yes, no, yes, no, no}, {iv(1, 2), iv(3, 4), yes, yes, no, yes, no, no}, {iv(3, 4), iv(1, 2), no, no, no, yes, yes, yes},
		// They touch in one number.
		{iv(1, 3), iv(3, 4), maybe, yes, maybe, maybe, no, maybe}, {iv(3, 4), iv(1, 3), no, maybe, maybe, maybe, maybe, yes},
		// One lies in the other.
		{iv(0, 9), iv(3, 4), maybe, maybe, maybe, maybe, maybe, maybe}, {iv(3, 4), iv(0, 9), maybe, maybe, maybe, maybe, maybe, maybe}, {iv(0, 9), iv(0, 9), maybe, maybe, maybe, maybe, maybe, maybe}, {iv(0, 9), iv(5, 5), maybe, maybe, maybe, maybe, maybe, maybe}, {iv(0, 9), iv(9, 9), maybe, yes, maybe, maybe, no, maybe}, {iv(0, 9), iv(0, 0), no, maybe, maybe, maybe, maybe, yes}, {iv(5, 5), iv(5, 9), maybe, yes, maybe, maybe, no, maybe},
		// One number each.
		{iv(5, 5), iv(5, 5), no, yes, yes, no, no, yes}, {iv(4, 4), iv(5, 5), yes, yes, no, yes, no, no}, {iv(6, 6), iv(5, 5), no, no, no, yes, yes, yes}, {iv(0, 0), iv(0, 0), no, yes, yes, no, no, yes},
		// The least and the greatest number.
		{iv(low, low), iv(top, top), yes, yes, no, yes, no, no}, {iv(top, top), iv(low, low), no, no, no, yes, yes, yes}, {iv(low, low), iv(low, low), no, yes, yes, no, no, yes}, {iv(top, top), iv(top, top), no, yes, yes, no, no, yes}, {iv(low, top), iv(low, low), no, maybe, maybe, maybe, maybe, yes}, {iv(low, top), iv(top, top), maybe, yes, maybe, maybe, no, maybe}, {iv(low, top), iv(low, top), maybe, maybe, maybe, maybe, maybe, maybe}, {iv(low, -1), iv(0, top), yes, yes, no, yes, no, no}, {iv(low, low), iv(low, top), maybe, yes, maybe, maybe, no, maybe},
	} {
		for i, want := range []impl.Interval{r.lt, r.le, r.eq, r.ne, r.gt, r.ge} {
			if got := impl.IvCompare(comparisons[i], r.a, r.b); got != want {
				t.Error(comparisons[i], r.a, r.b, got, want)
			}
		}
	}
}

func TestRefineAtItsEdges(t *testing.T) {
	type row struct {
		op         int64
		a, b, left impl.Interval
	}
	// Left is the zero value where nothing is.
	none := iv(0, 0)
	for _, r := range []row{
		{impl.TkLt, iv(2, 9), iv(0, 5), iv(2, 4)}, {impl.TkLt, iv(2, 9), iv(0, 3), iv(2, 2)}, {impl.TkLt, iv(2, 9), iv(0, 2), none}, {impl.TkLt, iv(2, 9), iv(0, 10), iv(2, 9)}, {impl.TkLt, iv(2, 9), iv(0, 9), iv(2, 8)}, {impl.TkLt, iv(2, 9), iv(9, 20), iv(2, 9)},
		{impl.TkLe, iv(2, 9), iv(0, 5), iv(2, 5)}, {impl.TkLe, iv(2, 9), iv(0, 2), iv(2, 2)}, {impl.TkLe, iv(2, 9), iv(0, 1), none}, {impl.TkLe, iv(2, 9), iv(0, 9), iv(2, 9)},
		{impl.TkGt, iv(2, 9), iv(5, 20), iv(6, 9)}, {impl.TkGt, iv(2, 9), iv(8, 20), iv(9, 9)}, {impl.TkGt, iv(2, 9), iv(9, 20), none}, {impl.TkGt, iv(2, 9), iv(1, 20), iv(2, 9)}, {impl.TkGt, iv(2, 9), iv(2, 2), iv(3, 9)},
		{impl.TkGe, iv(2, 9), iv(5, 20), iv(5, 9)}, {impl.TkGe, iv(2, 9), iv(9, 20), iv(9, 9)}, {impl.TkGe, iv(2, 9), iv(10, 20), none}, {impl.TkGe, iv(2, 9), iv(2, 20), iv(2, 9)},
		{impl.TkEq, iv(2, 9), iv(5, 20), iv(5, 9)}, {impl.TkEq, iv(2, 9), iv(9, 20), iv(9, 9)}, {impl.TkEq, iv(2, 9), iv(10, 20), none}, {impl.TkEq, iv(2, 9), iv(-5, 1), none}, {impl.TkEq, iv(2, 9), iv(3, 4), iv(3, 4)}, {impl.TkEq, iv(2, 9), iv(low, top), iv(2, 9)},
		// One number at a's Lo, at its Hi, inside, next to it, and a itself; more than one.
		{impl.TkNe, iv(2, 9), iv(2, 2), iv(3, 9)}, {impl.TkNe, iv(2, 9), iv(9, 9), iv(2, 8)}, {impl.TkNe, iv(2, 9), iv(5, 5), iv(2, 9)}, {impl.TkNe, iv(2, 9), iv(3, 3), iv(2, 9)}, {impl.TkNe, iv(2, 9), iv(1, 1), iv(2, 9)}, {impl.TkNe, iv(2, 9), iv(10, 10), iv(2, 9)}, {impl.TkNe, iv(2, 2), iv(2, 2), none}, {impl.TkNe, iv(2, 3), iv(2, 2), iv(3, 3)}, {impl.TkNe, iv(2, 3), iv(3, 3), iv(2, 2)}, {impl.TkNe, iv(2, 2), iv(3, 3), iv(2, 2)}, {impl.TkNe, iv(2, 9), iv(2, 3), iv(2, 9)}, {impl.TkNe, iv(2, 9), iv(2, 9), iv(2, 9)}, {impl.TkNe, iv(2, 2), iv(2, 3), iv(2, 2)}, {impl.TkNe, iv(0, 0), iv(0, 0), none},
		// The least and the greatest number.
		{impl.TkLt, iv(low, top), iv(low, low), none}, {impl.TkLt, iv(low, low), iv(low, low), none}, {impl.TkLt, iv(low, top), iv(low, low+1), iv(low, low)}, {impl.TkLt, iv(low, top), iv(top, top), iv(low, top-1)}, {impl.TkLt, iv(top, top), iv(low, top), none},
		{impl.TkGt, iv(low, top), iv(top, top), none}, {impl.TkGt, iv(top, top), iv(top, top), none}, {impl.TkGt, iv(low, top), iv(top-1, top), iv(top, top)}, {impl.TkGt, iv(low, top), iv(low, low), iv(low+1, top)}, {impl.TkGt, iv(low, low), iv(low, top), none},
		{impl.TkLe, iv(low, top), iv(low, low), iv(low, low)}, {impl.TkLe, iv(low, top), iv(top, top), iv(low, top)}, {impl.TkGe, iv(low, top), iv(top, top), iv(top, top)}, {impl.TkGe, iv(low, top), iv(low, low), iv(low, top)},
		{impl.TkNe, iv(low, top), iv(low, low), iv(low+1, top)}, {impl.TkNe, iv(low, top), iv(top, top), iv(low, top-1)}, {impl.TkNe, iv(low, low), iv(low, low), none}, {impl.TkNe, iv(top, top), iv(top, top), none}, {impl.TkNe, iv(low, top), iv(low, top), iv(low, top)}, {impl.TkEq, iv(low, top), iv(low, low), iv(low, low)}, {impl.TkEq, iv(low, low), iv(top, top), none},
	} {
		if left, ok := impl.IvRefine(r.op, r.a, r.b); left != r.left || ok != (r.left != none) {
			t.Error(r, left, ok)
		}
	}
	// The interval of 0 alone is left, and is not nothing.
	if left, ok := impl.IvRefine(impl.TkEq, iv(-1, 1), iv(0, 0)); !ok || left != iv(0, 0) {
		t.Error(left, ok)
	}
}

func TestCompareAndRefineAreTheExactOnes(t *testing.T) {
	for _, numbers := range [][]int64{smallNumbers(), fewNumbers()} {
		l := intervalsOf(numbers)
		for _, op := range comparisons {
			for _, a := range l {
				for _, b := range l {
					if got, want := impl.IvCompare(op, a, b), plainCompare(op, a, b); got != want {
						t.Fatal(op, a, b, got, want)
					}
					got, ok := impl.IvRefine(op, a, b)
					if want, wantOk := plainRefine(op, a, b); got != want || ok != wantOk {
						t.Fatal(op, a, b, got, ok, want, wantOk)
					}
				}
			}
		}
	}
}

// What is left has all numbers of a of which it holds with one of b; of more there is left more.
func TestRefineKeepsWhatHolds(t *testing.T) {
	numbers := []int64{-3, -2, -1, 0, 1, 2, 3}
	l := intervalsOf(numbers)
	for _, op := range comparisons {
		for _, a := range l {
			for _, b := range l {
				left, ok := impl.IvRefine(op, a, b)
				if ok && !impl.IvLeq(left, a) {
					t.Fatal("more than there was", op, a, b, left)
				}
				for _, x := range numbers {
					for _, y := range numbers {
						if impl.IvHas(a, x) && impl.IvHas(b, y) && compares(op, x, y) && !(ok && impl.IvHas(left, x)) {
							t.Fatal("lost", op, a, b, x, y)
						}
					}
				}
				for _, more := range l {
					if impl.IvLeq(a, more) {
						wide, wideOk := impl.IvRefine(op, more, b)
						if ok && !(wideOk && impl.IvLeq(left, wide)) {
							t.Fatal("less of more", op, a, more, b)
						}
					}
					if impl.IvLeq(b, more) {
						wide, wideOk := impl.IvRefine(op, a, more)
						if ok && !(wideOk && impl.IvLeq(left, wide)) {
							t.Fatal("less by more", op, a, b, more)
						}
					}
				}
			}
		}
	}
}

func TestCompareAndRefineOfWhatIsWrong(t *testing.T) {
	check := func(op int64, a, b impl.Interval) {
		t.Helper()
		if got := impl.IvCompare(op, a, b); got != iv(0, 0) {
			t.Error(op, a, b, got)
		}
		if got, ok := impl.IvRefine(op, a, b); ok || got != iv(0, 0) {
			t.Error(op, a, b, got, ok)
		}
	}
	right := []impl.Interval{iv(0, 0), iv(1, 9), iv(low, top), iv(-9, -1), iv(low, low), iv(top, top)}
	for _, op := range noComparisons {
		for _, a := range right {
			for _, b := range right {
				check(op, a, b)
			}
		}
	}
	for _, op := range append(slices.Clone(noComparisons), comparisons...) {
		for _, a := range wrongIntervals() {
			for _, b := range append(wrongIntervals(), right...) {
				check(op, a, b)
				check(op, b, a)
			}
		}
	}
}

// wideEnv is one of wideDecl; longname and inputs are 0 alone.
func wideEnv(x, y, z, a, endless impl.Interval) impl.Env {
	return impl.Env{Live: true, Ints: []impl.Interval{x, y, z, {}, {}}, Arrs: []impl.Interval{a, endless}}
}

// plainVal does the Toks one by one; the expression and the bounds are right ones of wideDecl, and Live.
func plainVal(l []impl.Tok, e impl.Env, leaf int64) impl.Val {
	var pile []impl.Interval
	var alarms int64
	take := func() impl.Interval {
		x := pile[len(pile)-1]
		pile = pile[:len(pile)-1]
		return x
	}
	signOf := map[int64]string{}
	for sign, op := range signOps {
		signOf[op] = sign
	}
	for _, tok := range l {
		var v impl.Val
		switch sign := signOf[tok.Op]; {
		case tok.Op == impl.TkNum:
			v = live(tok.N, tok.N, 0)
		case tok.Op == impl.TkVar:
			v = live(e.Ints[tok.N].Lo, e.Ints[tok.N].Hi, 0)
		case tok.Op == impl.TkFlag:
			bit := leaf / []int64{1, 2, 4}[tok.N] % 2
			v = live(bit, bit, 0)
		case sign == "true":
			v = live(1, 1, 0)
		case sign == "false":
			v = live(0, 0, 0)
		case tok.Op == impl.TkAt:
			place, most := take(), []int64{0, 15}[tok.N]
			v = live(e.Arrs[tok.N].Lo, e.Arrs[tok.N].Hi, 0)
			if place.Lo < 0 || place.Hi > most {
				v.Alarms = impl.AlBounds
			}
			if place.Hi < 0 || place.Lo > most {
				v = dead(impl.AlBounds)
			}
		case sign == "neg":
			v = impl.IvSub(iv(0, 0), take())
		case sign == "!":
			of := take()
			v = live(1-of.Hi, 1-of.Lo, 0)
		default:
			right, left := take(), take()
			switch sign {
			case "&":
				v = live(left.Lo*right.Lo, left.Hi*right.Hi, 0)
			case "|":
				v = live(left.Lo|right.Lo, left.Hi|right.Hi, 0)
			case "+", "-", "*", "/", "%":
				v = intervalOps()[sign](left, right)
			default:
				v.Iv, v.Live = plainCompare(tok.Op, left, right), true
			}
		}
		alarms |= v.Alarms
		if !v.Live {
			return dead(alarms)
		}
		pile = append(pile, v.Iv)
	}
	return impl.Val{Iv: pile[0], Live: true, Alarms: alarms}
}

func TestValOfAtItsEdges(t *testing.T) {
	const div, bounds, over = impl.AlDiv, impl.AlBounds, impl.AlOver
	d := wideDecl()
	for _, r := range []struct {
		words string
		x, y  impl.Interval
		want  impl.Val
	}{
		{"7", iv(0, 0), iv(0, 0), live(7, 7, 0)}, {"999999999999999999", iv(0, 0), iv(0, 0), live(impl.MaxNum, impl.MaxNum, 0)}, {"x", iv(low, top), iv(0, 0), live(low, top, 0)}, {"y", iv(1, 2), iv(3, 4), live(3, 4, 0)}, {"z", iv(1, 2), iv(3, 4), live(-1, 9, 0)}, {"inputs", iv(1, 2), iv(3, 4), live(0, 0, 0)},
		{"x y +", iv(0, 9), iv(5, 6), live(5, 15, 0)}, {"x y -", iv(0, 9), iv(5, 6), live(-6, 4, 0)}, {"x y *", iv(-2, 3), iv(-5, 4), live(-15, 12, 0)}, {"x y /", iv(-7, 9), iv(2, 4), live(-3, 4, 0)}, {"x y %", iv(-7, 9), iv(2, 4), live(-3, 3, 0)}, {"x neg", iv(-2, 5), iv(0, 0), live(-5, 2, 0)},
		// Each alarm, with something left and with nothing.
		{"x y /", iv(4, 8), iv(0, 2), live(2, 8, div)}, {"x y /", iv(4, 8), iv(0, 0), dead(div)}, {"x y %", iv(4, 8), iv(-1, 2), live(0, 1, div)}, {"x y %", iv(4, 8), iv(0, 0), dead(div)},
		{"x 1 +", iv(0, top), iv(0, 0), live(1, top, over)}, {"x 1 +", iv(top, top), iv(0, 0), dead(over)}, {"x 1 +", iv(0, top-1), iv(0, 0), live(1, top, 0)}, {"x 1 -", iv(low, 5), iv(0, 0), live(low, 4, over)}, {"x 1 -", iv(low, low), iv(0, 0), dead(over)}, {"x y *", iv(low, top), iv(2, 2), live(low, top, over)}, {"x neg", iv(low, 0), iv(0, 0), live(0, top, over)}, {"x neg", iv(low, low), iv(0, 0), dead(over)}, {"x y /", iv(low, low), iv(-1, -1), dead(over)}, {"x y /", iv(low, 0), iv(-1, -1), live(0, top, over)}, {"x y %", iv(low, low), iv(-1, -1), live(0, 0, 0)},
		{"x y /", iv(low, 5), iv(-1, 1), live(low, top, div|over)}, {"x y / endlessx", iv(low, 5), iv(-1, 1), live(2, 3, div|bounds|over)}, {"x 1 + y /", iv(top, top), iv(0, 0), dead(over)}, {"x 1 + y /", iv(0, top), iv(0, 0), dead(over | div)}, {"x y / 1 +", iv(0, top), iv(0, 1), live(1, top, div|over)},
		// A place at -1, 0, Size - 1 and Size.
		{"x a", iv(0, 0), iv(0, 0), live(4, 5, 0)}, {"x a", iv(-1, -1), iv(0, 0), dead(bounds)}, {"x a", iv(1, 1), iv(0, 0), dead(bounds)}, {"x a", iv(-1, 0), iv(0, 0), live(4, 5, bounds)}, {"x a", iv(0, 1), iv(0, 0), live(4, 5, bounds)}, {"x a", iv(low, -1), iv(0, 0), dead(bounds)}, {"x a", iv(1, top), iv(0, 0), dead(bounds)}, {"x a", iv(low, top), iv(0, 0), live(4, 5, bounds)},
		{"x endlessx", iv(0, 15), iv(0, 0), live(2, 3, 0)}, {"x endlessx", iv(-1, 15), iv(0, 0), live(2, 3, bounds)}, {"x endlessx", iv(0, 16), iv(0, 0), live(2, 3, bounds)}, {"x endlessx", iv(15, 15), iv(0, 0), live(2, 3, 0)}, {"x endlessx", iv(15, 16), iv(0, 0), live(2, 3, bounds)}, {"x endlessx", iv(16, 16), iv(0, 0), dead(bounds)}, {"x endlessx", iv(-1, -1), iv(0, 0), dead(bounds)}, {"x endlessx", iv(-1, 16), iv(0, 0), live(2, 3, bounds)}, {"x endlessx", iv(7, 7), iv(0, 0), live(2, 3, 0)}, {"x endlessx endlessx", iv(3, 3), iv(0, 0), live(2, 3, 0)}, {"x endlessx a", iv(3, 3), iv(0, 0), dead(bounds)}, {"x endlessx a", iv(3, 16), iv(0, 0), dead(bounds)},
		// No more is done behind what is not Live, and what was done ahead of it is told.
		{"1 0 / x a +", iv(9, 9), iv(0, 0), dead(div)}, {"x a 1 0 / +", iv(9, 9), iv(0, 0), dead(bounds)}, {"x 1 + 1 0 / +", iv(0, top), iv(0, 0), dead(over | div)}, {"x a 1 0 / +", iv(0, 9), iv(0, 0), dead(bounds | div)}, {"x a 1 0 / + y 1 + +", iv(0, 9), iv(top, top), dead(bounds | div)}, {"1 0 / endlessx", iv(0, 0), iv(0, 0), dead(div)}, {"1 0 / neg", iv(0, 0), iv(0, 0), dead(div)}, {"0 1 0 / *", iv(0, 0), iv(0, 0), dead(div)},
		{"1 0 / 0 == !", iv(0, 0), iv(0, 0), dead(div)}, {"1 y / x a <", iv(0, 1), iv(0, 3), live(1, 1, div|bounds)},
		// Both sides of & and | are done, whatever the first one is.
		{"false 1 0 / 0 == &", iv(0, 0), iv(0, 0), dead(div)}, {"1 0 / 0 == false &", iv(0, 0), iv(0, 0), dead(div)}, {"true 1 0 / 0 == |", iv(0, 0), iv(0, 0), dead(div)}, {"1 0 / 0 == true |", iv(0, 0), iv(0, 0), dead(div)}, {"1 0 / 0 == x a 0 == &", iv(9, 9), iv(0, 0), dead(div)}, {"x a 0 == 1 0 / 0 == |", iv(0, 9), iv(0, 0), dead(bounds | div)}, {"false 1 y / 0 == &", iv(0, 0), iv(0, 1), live(0, 0, div)}, {"true 1 y / 0 == |", iv(0, 0), iv(0, 1), live(1, 1, div)}, {"1 y / 0 == false &", iv(0, 0), iv(0, 1), live(0, 0, div)}, {"x a 0 == 1 y / 0 == |", iv(0, 9), iv(0, 3), live(0, 1, bounds|div)},
		{"true", iv(0, 0), iv(0, 0), live(1, 1, 0)}, {"false", iv(0, 0), iv(0, 0), live(0, 0, 0)}, {"true !", iv(0, 0), iv(0, 0), live(0, 0, 0)}, {"x y < !", iv(0, 5), iv(5, 9), live(0, 1, 0)}, {"x y < !", iv(0, 4), iv(5, 9), live(0, 0, 0)},
		{"x y < true &", iv(0, 9), iv(5, 5), live(0, 1, 0)}, {"x y < false &", iv(0, 9), iv(5, 5), live(0, 0, 0)}, {"x y < true |", iv(0, 9), iv(5, 5), live(1, 1, 0)}, {"x y < false |", iv(0, 9), iv(5, 5), live(0, 1, 0)}, {"x y < x y > &", iv(0, 9), iv(5, 5), live(0, 1, 0)}, {"x y <= x y >= |", iv(0, 9), iv(5, 5), live(0, 1, 0)},
		// It is not looked at what two sides have in common.
		{"x x -", iv(0, 9), iv(0, 0), live(-9, 9, 0)}, {"x x ==", iv(0, 9), iv(0, 0), live(0, 1, 0)}, {"x x ==", iv(9, 9), iv(0, 0), live(1, 1, 0)},
	} {
		l := post(r.words)
		e := wideEnv(r.x, r.y, iv(-1, 9), iv(4, 5), iv(2, 3))
		if v := impl.ValOf(d, l, e, 0); v != r.want || plainVal(l, e, 0) != r.want {
			t.Error(r, v, plainVal(l, e, 0))
		}
	}
}

func TestTruthsOfFlagsAtEachLeaf(t *testing.T) {
	d := wideDecl()
	e := wideEnv(iv(0, 9), iv(0, 0), iv(0, 0), iv(0, 0), iv(0, 0))
	for leaf := range int64(8) {
		for i, name := range []string{"b", "c", "truer"} {
			bit := leaf >> i & 1
			if v := impl.ValOf(d, post(name), e, leaf); v != live(bit, bit, 0) {
				t.Error(leaf, name, v)
			}
			if v := impl.ValOf(d, post(name+" !"), e, leaf); v != live(1-bit, 1-bit, 0) {
				t.Error(leaf, name, v)
			}
			for _, want := range []bool{false, true} {
				if g, alarms := impl.Guard(d, post(name), want, e, leaf); g.Live != (want == (bit == 1)) || g.Live && !sameEnv(g, e) || alarms != 0 {
					t.Error(leaf, name, want, g)
				}
			}
		}
	}
	for _, flags := range [][]string{nil, {"b"}, {"b", "c"}, {"b", "c", "f"}} {
		d := impl.Decl{Vars: []string{"x"}, Flags: flags}
		e := impl.Env{Live: true, Ints: []impl.Interval{iv(1, 3)}}
		last := []int64{0, 1, 3, 7}[len(flags)]
		for _, leaf := range []int64{low, -1, 0, last, last + 1, 8, 1 << 32, top} {
			right := 0 <= leaf && leaf <= last
			v := impl.ValOf(d, post("x"), e, leaf)
			if right && v != live(1, 3, 0) || !right && v != dead(0) {
				t.Error(len(flags), leaf, v)
			}
			// What would tell an alarm tells none where the leaf is none.
			l := post("1 x 1 - / 0 >=")
			g, alarms := impl.Guard(d, l, true, e, leaf)
			if g.Live != right || right && alarms != impl.AlDiv || !right && (alarms != 0 || impl.ValOf(d, l, e, leaf) != dead(0) || !sameEnv(g, impl.Env{})) {
				t.Error(len(flags), leaf, g, alarms)
			}
		}
	}
}

// someBounds are of wideDecl: most of them are narrow, so that guards have something to do.
func someBounds(r *rand.Rand) impl.Env {
	e := someEnv(r)
	for _, l := range [][]impl.Interval{e.Ints, e.Arrs} {
		for i := range l {
			if r.Intn(4) > 0 {
				l[i].Lo = r.Int63n(12) - 4
				l[i].Hi = l[i].Lo + r.Int63n(6)
			}
		}
	}
	return e
}

// wider has all that e has, and in some intervals more.
func wider(r *rand.Rand, e impl.Env) impl.Env {
	other := someBounds(r)
	e = impl.Env{Live: true, Ints: slices.Clone(e.Ints), Arrs: slices.Clone(e.Arrs)}
	for i := range e.Ints {
		if r.Intn(3) == 0 {
			e.Ints[i] = impl.IvJoin(e.Ints[i], other.Ints[i])
		}
	}
	for i := range e.Arrs {
		if r.Intn(3) == 0 {
			e.Arrs[i] = impl.IvJoin(e.Arrs[i], other.Arrs[i])
		}
	}
	return e
}

func numberIn(r *rand.Rand, a impl.Interval) int64 {
	width := uint64(a.Hi) - uint64(a.Lo)
	switch {
	case r.Intn(4) == 0 || width == 0:
		return a.Lo
	case r.Intn(3) == 0:
		return a.Hi
	case width == 1<<64-1:
		return int64(r.Uint64())
	}
	return int64(uint64(a.Lo) + r.Uint64()%(width+1))
}

// storeIn is a store of wideDecl that e has, with the flags of the leaf.
func storeIn(r *rand.Rand, e impl.Env, leaf int64) impl.Store {
	s := impl.StoreNew(wideDecl())
	for i := range s.Ints {
		s.Ints[i] = numberIn(r, e.Ints[i])
	}
	for i := range s.Flags {
		s.Flags[i] = leaf>>i&1 == 1
	}
	for i, l := range s.Arrs {
		for j := range l {
			l[j] = numberIn(r, e.Arrs[i])
		}
	}
	return s
}

// likelyTruth is a truth of comparisons with variables, so that guards narrow something.
func likelyTruth(r *rand.Rand, deep int) []impl.Tok {
	pick := func(l ...string) []impl.Tok { return post(l[r.Intn(len(l))]) }
	side := func() []impl.Tok {
		if r.Intn(5) == 0 {
			return someExpr(r, impl.KdNum, 1)
		}
		return pick("x", "y", "z", "longname", "0", "1", "3", "5", "x 1 +", "y neg", "x endlessx", "0 a", "z x /")
	}
	switch n := r.Intn(8); {
	case deep == 0 || n < 2:
		return slices.Concat(side(), side(), pick("<", "<=", "==", "!=", ">", ">="))
	case n == 2:
		return pick("b", "c", "truer", "true", "false")
	case n == 3:
		return append(likelyTruth(r, deep-1), pick("!")...)
	}
	return slices.Concat(likelyTruth(r, deep-1), likelyTruth(r, deep-1), pick("&", "|"))
}

// alarmOfCode is what must be told of what goes wrong in Eval.
var alarmOfCode = map[int64]int64{impl.RnDiv: impl.AlDiv, impl.RnBounds: impl.AlBounds, impl.RnOver: impl.AlOver}

// checkStore: promise 7, of an expression and one store within the bounds. It tells the code of Eval.
func checkStore(t *testing.T, l []impl.Tok, e impl.Env, leaf int64, s impl.Store) int64 {
	t.Helper()
	d := wideDecl()
	n, code := exactEval(l, s)
	v := impl.ValOf(d, l, e, leaf)
	if code != impl.RnOk {
		if v.Alarms&alarmOfCode[code] == 0 {
			t.Fatalf("%q %v %d %v: no alarm %d in %v", impl.ExprText(d, l), e, leaf, s, code, v)
		}
	} else if !v.Live || !impl.IvHas(v.Iv, n) {
		t.Fatalf("%q %v %d %v: %d is not in %v", impl.ExprText(d, l), e, leaf, s, n, v)
	}
	if kindOfToks(l) == impl.KdTruth {
		for _, want := range []bool{false, true} {
			g, alarms := impl.Guard(d, l, want, e, leaf)
			if alarms != v.Alarms || !impl.EnvLeq(d, g, e) {
				t.Fatalf("%q %v %v %d: %v %d", impl.ExprText(d, l), want, e, leaf, g, alarms)
			}
			if code == impl.RnOk && (n == 1) == want && !impl.EnvHas(d, g, s) {
				t.Fatalf("%q %v %v %d %v: lost in %v", impl.ExprText(d, l), want, e, leaf, s, g)
			}
		}
	}
	return code
}

// Promise 7, over all numbers within small bounds.
func TestAllNumbersWithinSmallBounds(t *testing.T) {
	lists := [][]impl.Tok{}
	eachList(post("1 x y b a neg + / < == ! & |"), 5, func(l []impl.Tok) {
		if kindOfToks(l) != 0 {
			lists = append(lists, slices.Clone(l))
		}
	})
	for _, sign := range []string{"+", "-", "*", "/", "%", "<", "<=", "==", "!=", ">", ">="} {
		lists = append(lists, post("x y "+sign), post("y x "+sign), post("x x "+sign), post("x 0 a "+sign), post("x neg y "+sign))
	}
	for _, first := range []string{"<", "<=", "==", "!=", ">", ">="} {
		for _, second := range []string{"<", "==", "!=", ">="} {
			for _, end := range []string{"&", "|", "& !", "! &", "! |"} {
				lists = append(lists, post("x y "+first+" x 0 "+second+" "+end), post("x 1 "+first+" y x "+second+" "+end))
			}
		}
	}
	for _, r := range []struct{ x, y, a impl.Interval }{{iv(-1, 1), iv(0, 1), iv(0, 1)}, {iv(0, 2), iv(0, 2), iv(-1, 0)}, {iv(1, 1), iv(-1, 2), iv(1, 1)}} {
		e := wideEnv(r.x, r.y, iv(0, 0), r.a, iv(0, 0))
		for x := r.x.Lo; x <= r.x.Hi; x++ {
			for y := r.y.Lo; y <= r.y.Hi; y++ {
				for a := r.a.Lo; a <= r.a.Hi; a++ {
					for leaf := range int64(2) {
						s := impl.Store{Ints: []int64{x, y, 0, 0, 0}, Flags: []bool{leaf == 1, false, false}, Arrs: [][]int64{{a}, make([]int64, 16)}}
						for _, l := range lists {
							checkStore(t, l, e, leaf, s)
						}
					}
				}
			}
		}
	}
}

// Promise 7, over bounds of all kinds; what is told is just what the document asks for.
func TestValuesAndGuardsOfAllKinds(t *testing.T) {
	r := rand.New(rand.NewSource(7))
	codes, alarms := map[int64]int{}, map[int64]int{}
	dead, kept, narrowed, lost := 0, 0, 0, 0
	for i := range 30000 {
		l := someExpr(r, 1+r.Int63n(2), 1+r.Intn(4))
		if i%2 == 0 {
			l = likelyTruth(r, 3)
		}
		if kindOfToks(l) == 0 {
			continue
		}
		e, leaf := someBounds(r), r.Int63n(8)
		v := impl.ValOf(wideDecl(), l, e, leaf)
		if want := plainVal(l, e, leaf); v != want {
			t.Fatalf("%q %v %d: %v, not %v", impl.ExprText(wideDecl(), l), e, leaf, v, want)
		}
		alarms[v.Alarms]++
		if !v.Live {
			dead++
		}
		for range 4 {
			codes[checkStore(t, l, e, leaf, storeIn(r, e, leaf))]++
		}
		for _, want := range []bool{false, true} {
			switch g := checkGuard(t, l, want, e, leaf); {
			case !g.Live:
				lost++
			case sameEnv(g, e):
				kept++
			default:
				narrowed++
			}
		}
	}
	for _, code := range []int64{impl.RnOk, impl.RnDiv, impl.RnBounds, impl.RnOver} {
		if codes[code] < 1000 {
			t.Error("code", code, "came", codes[code], "times")
		}
	}
	for sum := range int64(8) {
		if alarms[sum] < 50 {
			t.Error("alarms", sum, "came", alarms[sum], "times")
		}
	}
	if dead < 1000 || kept < 1000 || narrowed < 1000 || lost < 1000 {
		t.Error("not Live, kept, narrowed, lost:", dead, kept, narrowed, lost)
	}
}

// Promise 7: of more there is told more, and kept more.
func TestOfMoreThereIsMore(t *testing.T) {
	d := wideDecl()
	r := rand.New(rand.NewSource(77))
	checked := 0
	for range 20000 {
		l := likelyTruth(r, 2)
		if r.Intn(3) == 0 {
			l = someExpr(r, 1+r.Int63n(2), 1+r.Intn(3))
		}
		if kindOfToks(l) == 0 {
			continue
		}
		less, leaf := someBounds(r), r.Int63n(8)
		more := wider(r, less)
		if !impl.EnvLeq(d, less, more) {
			t.Fatal(less, more)
		}
		if v, w := impl.ValOf(d, l, less, leaf), impl.ValOf(d, l, more, leaf); !noMore(v, w) {
			t.Fatalf("%q %v %v %d: %v %v", impl.ExprText(d, l), less, more, leaf, v, w)
		}
		for _, want := range []bool{false, true} {
			g, alarms := impl.Guard(d, l, want, less, leaf)
			h, more := impl.Guard(d, l, want, more, leaf)
			if !impl.EnvLeq(d, g, h) || alarms&^more != 0 {
				t.Fatalf("%q %v %v %v: %v %v", impl.ExprText(d, l), want, less, leaf, g, h)
			}
			if g.Live {
				checked++
			}
		}
	}
	if checked < 5000 {
		t.Error("checked only", checked)
	}
}

// thingAt is where the thing begins that the last Tok of l leaves.
func thingAt(l []impl.Tok) int {
	at := len(l)
	for open := 1; open > 0; open-- {
		at--
		switch op := l[at].Op; {
		case op <= impl.TkFalse:
		case op <= impl.TkNeg || op == impl.TkNot:
			open++
		default:
			open += 2
		}
	}
	return at
}

// plainGuard goes over Toks, from the last one on; l is a truth of wideDecl.
func plainGuard(l []impl.Tok, want bool, e impl.Env, leaf int64) (impl.Env, int64) {
	v := plainVal(l, e, leaf)
	if !v.Live || want && v.Iv.Hi == 0 || !want && v.Iv.Lo == 1 {
		return impl.Env{}, v.Alarms
	}
	return plainRefined(l, want, e, leaf), v.Alarms
}

func plainRefined(l []impl.Tok, want bool, e impl.Env, leaf int64) impl.Env {
	end := len(l) - 1
	op := l[end].Op
	switch {
	case !e.Live:
		return impl.Env{}
	case op == impl.TkTrue || op == impl.TkFalse || op == impl.TkFlag:
		if (op == impl.TkTrue || op == impl.TkFlag && leaf>>l[end].N&1 == 1) != want {
			return impl.Env{}
		}
		return e
	case op == impl.TkNot:
		return plainRefined(l[:end], !want, e, leaf)
	}
	at := thingAt(l[:end])
	left, right := l[:at], l[at:end]
	if op != impl.TkAnd && op != impl.TkOr {
		if !want {
			op = map[int64]int64{impl.TkLt: impl.TkGe, impl.TkGe: impl.TkLt, impl.TkLe: impl.TkGt, impl.TkGt: impl.TkLe, impl.TkEq: impl.TkNe, impl.TkNe: impl.TkEq}[op]
		}
		return plainCompared(op, left, right, e, leaf)
	}
	first := plainRefined(left, want, e, leaf)
	if op == impl.TkAnd && want || op == impl.TkOr && !want {
		return plainRefined(right, want, first, leaf)
	}
	return impl.EnvJoin(wideDecl(), first, plainRefined(right, want, e, leaf))
}

func plainCompared(op int64, left, right []impl.Tok, e impl.Env, leaf int64) impl.Env {
	a, b := plainVal(left, e, leaf), plainVal(right, e, leaf)
	if !a.Live || !b.Live {
		return impl.Env{}
	}
	e = impl.Env{Live: true, Ints: slices.Clone(e.Ints), Arrs: e.Arrs}
	var ok bool
	if len(left) == 1 && left[0].Op == impl.TkVar {
		if e.Ints[left[0].N], ok = plainRefine(op, e.Ints[left[0].N], b.Iv); !ok {
			return impl.Env{}
		}
	}
	if len(right) == 1 && right[0].Op == impl.TkVar {
		round := map[int64]int64{impl.TkLt: impl.TkGt, impl.TkGt: impl.TkLt, impl.TkLe: impl.TkGe, impl.TkGe: impl.TkLe, impl.TkEq: impl.TkEq, impl.TkNe: impl.TkNe}[op]
		if e.Ints[right[0].N], ok = plainRefine(round, e.Ints[right[0].N], a.Iv); !ok {
			return impl.Env{}
		}
	}
	return e
}

func checkGuard(t *testing.T, l []impl.Tok, want bool, e impl.Env, leaf int64) impl.Env {
	t.Helper()
	d := wideDecl()
	g, alarms := impl.Guard(d, l, want, e, leaf)
	if kindOfToks(l) != impl.KdTruth {
		if !sameEnv(g, impl.Env{}) || alarms != impl.ValOf(d, l, e, leaf).Alarms {
			t.Fatalf("%q %v: %v %d", impl.ExprText(d, l), e, g, alarms)
		}
		return g
	}
	wantEnv, wantAlarms := plainGuard(l, want, e, leaf)
	if !sameEnv(g, wantEnv) || alarms != wantAlarms || !impl.EnvOk(d, g) {
		t.Fatalf("%q %v %v %d: %v %d, not %v %d", impl.ExprText(d, l), want, e, leaf, g, alarms, wantEnv, wantAlarms)
	}
	return g
}

func TestGuardAtItsEdges(t *testing.T) {
	const div, bounds, over = impl.AlDiv, impl.AlBounds, impl.AlOver
	type row struct {
		words  string
		want   bool
		x, y   impl.Interval
		gx, gy impl.Interval
		live   bool
		alarms int64
	}
	gone := func(words string, want bool, x, y impl.Interval, alarms int64) row {
		return row{words: words, want: want, x: x, y: y, alarms: alarms}
	}
	is := func(words string, want bool, x, y, gx, gy impl.Interval) row {
		return row{words, want, x, y, gx, gy, true, 0}
	}
	alarmed := func(r row, alarms int64) row {
		r.alarms = alarms
		return r
	}
	for _, r := range []row{
		// The same variable on both sides.
		is("x x <", true, iv(0, 9), iv(0, 0), iv(1, 8), iv(0, 0)), is("x x <", true, iv(0, 2), iv(0, 0), iv(1, 1), iv(0, 0)), gone("x x <", true, iv(0, 1), iv(0, 0), 0), gone("x x <", true, iv(4, 4), iv(0, 0), 0), is("x x <", false, iv(0, 9), iv(0, 0), iv(0, 9), iv(0, 0)), is("x x <", false, iv(4, 4), iv(0, 0), iv(4, 4), iv(0, 0)),
		is("x x >", true, iv(0, 9), iv(0, 0), iv(1, 8), iv(0, 0)), gone("x x >", true, iv(0, 1), iv(0, 0), 0), is("x x <=", true, iv(0, 9), iv(0, 0), iv(0, 9), iv(0, 0)), is("x x <=", false, iv(0, 9), iv(0, 0), iv(1, 8), iv(0, 0)), gone("x x >=", false, iv(0, 1), iv(0, 0), 0), gone("x x >=", false, iv(5, 5), iv(0, 0), 0),
		is("x x ==", true, iv(0, 9), iv(0, 0), iv(0, 9), iv(0, 0)), is("x x ==", false, iv(0, 9), iv(0, 0), iv(0, 9), iv(0, 0)), gone("x x ==", false, iv(3, 3), iv(0, 0), 0), gone("x x !=", true, iv(3, 3), iv(0, 0), 0), is("x x !=", true, iv(3, 4), iv(0, 0), iv(3, 4), iv(0, 0)),
		is("x x <", true, iv(low, top), iv(0, 0), iv(low+1, top-1), iv(0, 0)),
		// Variables on both sides.
		is("x y <", true, iv(0, 9), iv(0, 9), iv(0, 8), iv(1, 9)), is("x y <", false, iv(0, 9), iv(0, 9), iv(0, 9), iv(0, 9)), is("x y <", true, iv(3, 20), iv(-5, 9), iv(3, 8), iv(4, 9)), is("x y <", false, iv(0, 4), iv(2, 9), iv(2, 4), iv(2, 4)), is("x y <=", true, iv(3, 20), iv(-5, 9), iv(3, 9), iv(3, 9)), is("x y <=", false, iv(0, 4), iv(2, 9), iv(3, 4), iv(2, 3)), is("x y >", true, iv(-5, 9), iv(3, 20), iv(4, 9), iv(3, 8)), is("x y >=", true, iv(-5, 9), iv(3, 20), iv(3, 9), iv(3, 9)), is("x y >=", false, iv(-5, 9), iv(3, 20), iv(-5, 9), iv(3, 20)),
		is("x y ==", true, iv(0, 5), iv(3, 9), iv(3, 5), iv(3, 5)), is("x y ==", true, iv(0, 5), iv(5, 9), iv(5, 5), iv(5, 5)), gone("x y ==", true, iv(0, 4), iv(5, 9), 0), is("x y ==", false, iv(0, 5), iv(3, 9), iv(0, 5), iv(3, 9)), is("x y ==", false, iv(3, 3), iv(3, 9), iv(3, 3), iv(4, 9)), is("x y ==", false, iv(0, 3), iv(3, 3), iv(0, 2), iv(3, 3)), gone("x y ==", false, iv(3, 3), iv(3, 3), 0), is("x y !=", true, iv(3, 3), iv(0, 3), iv(3, 3), iv(0, 2)), is("x y !=", true, iv(3, 4), iv(3, 3), iv(4, 4), iv(3, 3)), is("x y !=", true, iv(3, 3), iv(2, 4), iv(3, 3), iv(2, 4)), is("x y !=", false, iv(0, 4), iv(2, 9), iv(2, 4), iv(2, 4)),
		// A variable on one side, and what has it on the other.
		is("x x 1 + <", true, iv(0, 9), iv(0, 0), iv(0, 9), iv(0, 0)), is("x x x + ==", true, iv(-5, 3), iv(0, 0), iv(-5, 3), iv(0, 0)), is("x x x + ==", true, iv(2, 9), iv(0, 0), iv(4, 9), iv(0, 0)), is("x 5 - x >", true, iv(0, 9), iv(0, 0), iv(0, 3), iv(0, 0)), is("x x 5 - <", true, iv(0, 9), iv(0, 0), iv(0, 3), iv(0, 0)), is("x neg x >=", true, iv(-3, 9), iv(0, 0), iv(-3, 3), iv(0, 0)), gone("x x 9 + >=", true, iv(0, 8), iv(0, 0), 0), is("x y x + <", true, iv(0, 9), iv(-3, -2), iv(0, 6), iv(-3, -2)),
		alarmed(is("x x 1 + <", true, iv(0, top), iv(0, 0), iv(0, top-1), iv(0, 0)), over), alarmed(is("1 x / x <", true, iv(-1, 5), iv(0, 0), iv(0, 5), iv(0, 0)), div),
		// Sides that are more than a variable, or less.
		is("x 1 + 3 <", true, iv(0, 9), iv(0, 0), iv(0, 9), iv(0, 0)), is("3 x <", true, iv(0, 9), iv(0, 0), iv(4, 9), iv(0, 0)), is("3 x <", false, iv(0, 9), iv(0, 0), iv(0, 3), iv(0, 0)), is("3 x >=", true, iv(0, 9), iv(0, 0), iv(0, 3), iv(0, 0)), is("0 x ==", true, iv(0, 9), iv(0, 0), iv(0, 0), iv(0, 0)), is("0 x !=", true, iv(0, 9), iv(0, 0), iv(1, 9), iv(0, 0)), is("9 x ==", false, iv(0, 9), iv(0, 0), iv(0, 8), iv(0, 0)), is("x neg neg 3 <", true, iv(0, 9), iv(0, 0), iv(0, 9), iv(0, 0)), is("1 2 <", true, iv(0, 9), iv(0, 0), iv(0, 9), iv(0, 0)), gone("1 2 <", false, iv(0, 9), iv(0, 0), 0),
		// & and |, wanted and not.
		is("x 3 > x 7 < &", true, iv(0, 9), iv(0, 0), iv(4, 6), iv(0, 0)), is("x 3 > x 7 < &", false, iv(0, 9), iv(0, 0), iv(0, 9), iv(0, 0)), is("x 3 < x 7 > |", false, iv(0, 9), iv(0, 0), iv(3, 7), iv(0, 0)), is("x 3 < x 7 > |", true, iv(0, 9), iv(0, 0), iv(0, 9), iv(0, 0)), is("x 3 < x 5 == |", true, iv(0, 9), iv(0, 0), iv(0, 5), iv(0, 0)), is("x 3 >= x 5 >= &", false, iv(0, 9), iv(0, 0), iv(0, 4), iv(0, 0)),
		// What the left one left counts for the right one, there where both count.
		is("x 4 < y x < &", true, iv(0, 9), iv(0, 9), iv(1, 3), iv(0, 2)), is("y x < x 4 < &", true, iv(0, 9), iv(0, 9), iv(1, 3), iv(0, 8)), is("x 4 >= y x >= |", false, iv(0, 9), iv(0, 9), iv(1, 3), iv(0, 2)), is("x 4 < y x < |", true, iv(0, 9), iv(0, 9), iv(0, 9), iv(0, 9)), is("x 4 < y 2 < |", true, iv(0, 9), iv(0, 9), iv(0, 9), iv(0, 9)),
		gone("x 4 < x 6 > &", true, iv(0, 9), iv(0, 0), 0), gone("x 4 >= x 6 <= |", false, iv(0, 9), iv(0, 0), 0), gone("x 4 < x 6 > & y 0 >= &", true, iv(0, 9), iv(0, 9), 0), gone("x 4 < x 6 > & true &", true, iv(0, 9), iv(0, 9), 0), is("x 4 < x 6 > & y 3 < |", true, iv(0, 9), iv(0, 9), iv(0, 9), iv(0, 2)), is("y 3 < x 4 < x 6 > & |", true, iv(0, 9), iv(0, 9), iv(0, 9), iv(0, 2)), gone("x 4 < x 6 > & x 5 < x 5 > & |", true, iv(0, 9), iv(0, 9), 0),
		// One within the other, and !.
		is("x 2 < x 5 > | y 3 == &", true, iv(0, 9), iv(0, 9), iv(0, 9), iv(3, 3)), is("x 2 < x 3 == | y 3 == &", true, iv(0, 9), iv(0, 9), iv(0, 3), iv(3, 3)), is("x 2 < x 5 > | !", true, iv(0, 9), iv(0, 0), iv(2, 5), iv(0, 0)), is("x 2 >= x 5 <= & !", false, iv(0, 9), iv(0, 0), iv(2, 5), iv(0, 0)), is("x 2 >= ! x 5 <= ! |", false, iv(0, 9), iv(0, 0), iv(2, 5), iv(0, 0)), is("x 2 < ! !", true, iv(0, 9), iv(0, 0), iv(0, 1), iv(0, 0)), is("x 2 < ! ! !", true, iv(0, 9), iv(0, 0), iv(2, 9), iv(0, 0)), is("x 4 < y 4 < & x 6 < | !", true, iv(0, 9), iv(0, 9), iv(6, 9), iv(0, 9)),
		// Truths that are sure, on one side of another one; b is false, c is true.
		is("b x 3 < |", true, iv(0, 9), iv(0, 0), iv(0, 2), iv(0, 0)), is("c x 3 < |", true, iv(0, 9), iv(0, 0), iv(0, 9), iv(0, 0)), gone("b x 3 < &", true, iv(0, 9), iv(0, 0), 0), is("c x 3 < &", true, iv(0, 9), iv(0, 0), iv(0, 2), iv(0, 0)), is("b x 3 < &", false, iv(0, 9), iv(0, 0), iv(0, 9), iv(0, 0)), is("c x 3 < &", false, iv(0, 9), iv(0, 0), iv(3, 9), iv(0, 0)), is("x 3 < false |", true, iv(0, 9), iv(0, 0), iv(0, 2), iv(0, 0)), is("x 3 < true & !", true, iv(0, 9), iv(0, 0), iv(3, 9), iv(0, 0)), is("true", true, iv(0, 9), iv(0, 0), iv(0, 9), iv(0, 0)), gone("true", false, iv(0, 9), iv(0, 0), 0), is("false", false, iv(0, 9), iv(0, 0), iv(0, 9), iv(0, 0)), gone("false", true, iv(0, 9), iv(0, 0), 0), is("b", false, iv(0, 9), iv(0, 0), iv(0, 9), iv(0, 0)), gone("b", true, iv(0, 9), iv(0, 0), 0), is("c", true, iv(0, 9), iv(0, 0), iv(0, 9), iv(0, 0)), gone("c !", true, iv(0, 9), iv(0, 0), 0),
		// Below & and | it is not asked whether the truth may be what is wanted: only variables are.
		is("x 1 + 99 < y 3 < &", false, iv(0, 9), iv(0, 9), iv(0, 9), iv(0, 9)), is("x 99 < y 3 < &", false, iv(0, 9), iv(0, 9), iv(0, 9), iv(3, 9)), is("1 2 < y 3 < &", false, iv(0, 9), iv(0, 9), iv(0, 9), iv(0, 9)),
		// The truth is one number alone, and not the one that is wanted.
		gone("x 10 <", false, iv(0, 9), iv(0, 0), 0), gone("x 9 >", true, iv(0, 9), iv(0, 0), 0), is("x 10 <", true, iv(0, 9), iv(0, 0), iv(0, 9), iv(0, 0)), gone("x 1 + 99 <", false, iv(0, 9), iv(0, 0), 0), gone("x y <", true, iv(5, 9), iv(0, 5), 0),
		// Alarms, also where nothing is left.
		gone("1 0 / x <", true, iv(0, 9), iv(0, 0), div), gone("x a 0 ==", true, iv(9, 9), iv(0, 0), bounds), gone("false 1 y / 9 == &", true, iv(0, 9), iv(0, 1), div), gone("true 1 y / 9 == |", false, iv(0, 9), iv(0, 1), div), gone("x 1 + 0 <", true, iv(0, top), iv(0, 0), over), gone("x 1 + 0 < x a 7 == &", true, iv(0, top), iv(0, 0), over|bounds), gone("x 4 < x 6 > & y 1 + 0 > &", true, iv(0, 9), iv(0, top), over),
		alarmed(is("10 x / y <", true, iv(0, 9), iv(0, 9), iv(0, 9), iv(2, 9)), div), alarmed(is("x endlessx y ==", true, iv(0, 99), iv(0, 9), iv(0, 99), iv(2, 3)), bounds),
		// What the left one left makes a side of the right one not Live, which alarms nobody anew.
		gone("x 0 > x a 0 >= &", true, iv(0, 9), iv(0, 0), bounds), gone("x 0 == 1 x / 0 >= &", true, iv(0, 9), iv(0, 0), div), gone("x 0 == 0 1 x / <= &", true, iv(0, 9), iv(0, 0), div), alarmed(is("x 0 == 1 x / 0 >= & y 5 > |", true, iv(0, 9), iv(0, 9), iv(0, 9), iv(6, 9)), div),
		// Numbers are no truths, whatever they are.
		gone("1", true, iv(0, 9), iv(0, 0), 0), gone("0", false, iv(0, 9), iv(0, 0), 0), gone("x", true, iv(0, 9), iv(0, 0), 0), gone("x y +", false, iv(0, 9), iv(0, 0), 0), gone("1 y /", true, iv(0, 9), iv(0, 1), div), gone("1 y /", false, iv(0, 9), iv(0, 0), div),
	} {
		l := post(r.words)
		e := wideEnv(r.x, r.y, iv(-1, 9), iv(4, 5), iv(2, 3))
		g, alarms := impl.Guard(wideDecl(), l, r.want, e, 2)
		var want impl.Env
		if r.live {
			want = wideEnv(r.gx, r.gy, iv(-1, 9), iv(4, 5), iv(2, 3))
		}
		if !sameEnv(g, want) || alarms != r.alarms {
			t.Error(r, g, alarms)
		}
		checkGuard(t, l, r.want, e, 2)
	}
}

func TestGuardsByEachComparison(t *testing.T) {
	ivs := intervalsOf([]int64{-2, -1, 0, 1, 2})
	for _, sign := range []string{"<", "<=", "==", "!=", ">", ">="} {
		for _, words := range []string{"x y " + sign, "y x " + sign, "x x " + sign, "x 1 " + sign, "0 x " + sign, "x y neg " + sign, "x 0 a " + sign, "x 1 + x " + sign, "x x y + " + sign} {
			l := post(words)
			for _, x := range ivs {
				for _, y := range ivs {
					e := wideEnv(x, y, iv(0, 0), iv(-1, 1), iv(0, 0))
					for _, want := range []bool{false, true} {
						checkGuard(t, l, want, e, 0)
						checkGuard(t, append(slices.Clone(l), impl.Tok{Op: impl.TkNot}), want, e, 0)
					}
				}
			}
		}
	}
}

func TestValuesOfWhatIsWrong(t *testing.T) {
	d := wideDecl()
	right := wideEnv(iv(0, 9), iv(0, 9), iv(0, 9), iv(0, 9), iv(0, 9))
	// What alarms and holds, where all is right.
	alarming := post("1 x / 0 >=")
	check := func(d impl.Decl, l []impl.Tok, e impl.Env, leaf int64) {
		t.Helper()
		if v := impl.ValOf(d, l, e, leaf); v != dead(0) {
			t.Error(d, l, e, leaf, v)
		}
		for _, want := range []bool{false, true} {
			if g, alarms := impl.Guard(d, l, want, e, leaf); !sameEnv(g, impl.Env{}) || alarms != 0 {
				t.Error(d, l, want, e, leaf, g, alarms)
			}
		}
	}
	if impl.ValOf(d, alarming, right, 7) != live(1, 1, impl.AlDiv) {
		t.Error("right one")
	}
	for _, e := range append(wrongEnvs(), impl.Env{}) {
		check(d, alarming, e, 0)
		check(d, post("true"), e, 0)
		check(d, post("7"), e, 0)
	}
	for _, leaf := range []int64{low, -1, 8, 9, top} {
		check(d, alarming, right, leaf)
		check(d, post("b"), right, leaf)
		check(d, post("true"), right, leaf)
	}
	for _, l := range [][]impl.Tok{nil, {}, post("x y"), post("1 0 / x"), post("+"), post("b neg"), post("x !"), post("1 b +"), post("b c <"), post("b a"), {{Op: 22}}, {{}}, {{Op: -1}}, {{Op: impl.TkVar, N: 5}}, {{Op: impl.TkVar, N: -1}}, {{Op: impl.TkFlag, N: 3}}, {{Op: impl.TkNum, N: -1}}, {{Op: impl.TkTrue, N: 1}}, {{Op: impl.TkNum}, {Op: impl.TkAt, N: 2}}, append(post("true"), slices.Repeat(post("!"), 40)...), append(post("1 0 / 0 =="), slices.Repeat(post("!"), 36)...)} {
		check(d, l, right, 0)
	}
	if v := impl.ValOf(d, append(post("true"), slices.Repeat(post("!"), 39)...), right, 0); v != live(0, 0, 0) {
		t.Error("40 Toks", v)
	}
	for _, d := range wrongDecls() {
		full := impl.Env{Live: true, Ints: make([]impl.Interval, len(d.Vars)), Arrs: make([]impl.Interval, len(d.Arrays))}
		for _, e := range []impl.Env{full, {}, {Live: true}} {
			check(d, post("1 0 / 0 =="), e, 0)
			check(d, post("true"), e, 0)
		}
	}
	flags := impl.Decl{Flags: []string{"b", "c", "e", "f"}}
	check(flags, post("true"), impl.Env{Live: true}, 0)
	check(impl.Decl{Flags: make([]string, 70)}, post("true"), impl.Env{Live: true}, 0)
	if v := impl.ValOf(impl.Decl{}, post("7"), impl.Env{Live: true}, 0); v != live(7, 7, 0) {
		t.Error("without names", v)
	}
	if g, alarms := impl.Guard(impl.Decl{}, post("true"), true, impl.Env{Live: true}, 0); !sameEnv(g, impl.Env{Live: true}) || alarms != 0 {
		t.Error("without names", g, alarms)
	}
}

func TestEnvSet(t *testing.T) {
	d := wideDecl()
	e := wideEnv(iv(1, 2), iv(3, 4), iv(5, 6), iv(7, 8), iv(9, 10))
	e.Ints[3], e.Ints[4] = iv(11, 12), iv(13, 14)
	for v := int64(-2); v <= 7; v++ {
		for _, a := range []impl.Interval{iv(0, 0), iv(-5, 50), iv(2, 2), iv(low, top), iv(low, low), iv(top, top), iv(1, 2)} {
			var want impl.Env
			if 0 <= v && v < 5 {
				want = impl.Env{Live: true, Ints: slices.Clone(e.Ints), Arrs: e.Arrs}
				want.Ints[v] = a
			}
			if got := impl.EnvSet(d, e, v, a); !sameEnv(got, want) {
				t.Error(v, a, got)
			}
		}
		for _, a := range wrongIntervals() {
			if got := impl.EnvSet(d, e, v, a); !sameEnv(got, impl.Env{}) {
				t.Error(v, a, got)
			}
		}
	}
	for _, v := range []int64{low, top, 1 << 32, -1 << 32} {
		if got := impl.EnvSet(d, e, v, iv(0, 0)); !sameEnv(got, impl.Env{}) {
			t.Error(v, got)
		}
	}
	for _, wrong := range append(wrongEnvs(), impl.Env{}) {
		if got := impl.EnvSet(d, wrong, 0, iv(0, 0)); !sameEnv(got, impl.Env{}) {
			t.Error(wrong, got)
		}
	}
	for _, d := range append(wrongDecls(), impl.Decl{}, impl.Decl{Flags: []string{"x"}}, impl.Decl{Arrays: []impl.Arr{{Name: "x", Size: 3}}}) {
		full := impl.Env{Live: true, Ints: make([]impl.Interval, len(d.Vars)), Arrs: make([]impl.Interval, len(d.Arrays))}
		if got := impl.EnvSet(d, full, 0, iv(1, 2)); !sameEnv(got, impl.Env{}) {
			t.Error(d, got)
		}
	}
}

func TestEnvPut(t *testing.T) {
	const bounds = impl.AlBounds
	d := wideDecl()
	e := wideEnv(iv(1, 2), iv(3, 4), iv(5, 6), iv(4, 5), iv(-1, 1))
	for _, r := range []struct {
		v      int64
		place  impl.Interval
		live   bool
		alarms int64
	}{
		{0, iv(0, 0), true, 0}, {0, iv(-1, -1), false, bounds}, {0, iv(1, 1), false, bounds}, {0, iv(-1, 0), true, bounds}, {0, iv(0, 1), true, bounds}, {0, iv(-1, 1), true, bounds}, {0, iv(low, top), true, bounds}, {0, iv(low, -1), false, bounds}, {0, iv(1, top), false, bounds},
		{1, iv(0, 15), true, 0}, {1, iv(0, 0), true, 0}, {1, iv(15, 15), true, 0}, {1, iv(7, 7), true, 0}, {1, iv(3, 9), true, 0}, {1, iv(-1, 15), true, bounds}, {1, iv(0, 16), true, bounds}, {1, iv(15, 16), true, bounds}, {1, iv(-1, 0), true, bounds}, {1, iv(16, 16), false, bounds}, {1, iv(-1, -1), false, bounds}, {1, iv(16, top), false, bounds}, {1, iv(low, -1), false, bounds}, {1, iv(low, top), true, bounds}, {1, iv(top, top), false, bounds},
	} {
		for _, a := range []impl.Interval{iv(7, 9), iv(0, 0), iv(5, 5), iv(-9, -3), iv(low, top), iv(-1, 1), iv(4, 5), iv(top, top)} {
			var want impl.Env
			if r.live {
				want = impl.Env{Live: true, Ints: e.Ints, Arrs: slices.Clone(e.Arrs)}
				want.Arrs[r.v] = a
				if r.v == 1 {
					want.Arrs[1] = iv(min(a.Lo, -1), max(a.Hi, 1))
				}
			}
			if got, alarms := impl.EnvPut(d, e, r.v, r.place, a); !sameEnv(got, want) || alarms != r.alarms {
				t.Error(r, a, got, alarms)
			}
		}
	}
	two := impl.Decl{Arrays: []impl.Arr{{Name: "a", Size: 2}}}
	if got, alarms := impl.EnvPut(two, impl.Env{Live: true, Arrs: []impl.Interval{iv(3, 4)}}, 0, iv(1, 1), iv(9, 9)); !sameEnv(got, impl.Env{Live: true, Arrs: []impl.Interval{iv(3, 9)}}) || alarms != 0 {
		t.Error("size 2", got, alarms)
	}
}

func TestEnvPutOfWhatIsWrong(t *testing.T) {
	d := wideDecl()
	e := wideEnv(iv(1, 2), iv(3, 4), iv(5, 6), iv(4, 5), iv(-1, 1))
	check := func(d impl.Decl, e impl.Env, v int64, place, a impl.Interval) {
		t.Helper()
		if got, alarms := impl.EnvPut(d, e, v, place, a); !sameEnv(got, impl.Env{}) || alarms != 0 {
			t.Error(d, e, v, place, a, got, alarms)
		}
	}
	places := []impl.Interval{iv(0, 0), iv(-1, 0), iv(-1, -1), iv(99, 99)}
	for _, place := range places {
		for _, v := range []int64{low, -1, 2, 3, 5, 1 << 32, top} {
			check(d, e, v, place, iv(0, 0))
		}
		for _, wrong := range wrongIntervals() {
			check(d, e, 0, place, wrong)
			check(d, e, 1, place, wrong)
			check(d, e, 0, wrong, place)
			check(d, e, 1, wrong, place)
			check(d, e, 1, wrong, wrong)
		}
		for _, wrong := range append(wrongEnvs(), impl.Env{}) {
			check(d, wrong, 0, place, iv(0, 0))
			check(d, wrong, 1, place, iv(0, 0))
		}
		for _, d := range append(wrongDecls(), impl.Decl{}, impl.Decl{Vars: []string{"x"}}) {
			full := impl.Env{Live: true, Ints: make([]impl.Interval, len(d.Vars)), Arrs: make([]impl.Interval, len(d.Arrays))}
			check(d, full, 0, place, iv(0, 0))
		}
	}
}

// What is set or put within the intervals is in what is told.
func TestSetAndPutHaveWhatIsDone(t *testing.T) {
	d := wideDecl()
	r := rand.New(rand.NewSource(70))
	outside := 0
	for range 20000 {
		e := someBounds(r)
		s := storeIn(r, e, r.Int63n(8))
		a := someBounds(r).Ints[0]
		n := numberIn(r, a)
		v := r.Int63n(5)
		set := impl.Store{Ints: slices.Clone(s.Ints), Flags: s.Flags, Arrs: s.Arrs}
		set.Ints[v] = n
		if got := impl.EnvSet(d, e, v, a); !impl.EnvHas(d, got, set) {
			t.Fatal(e, v, a, got, set)
		}
		place := someBounds(r).Ints[0]
		at, v := numberIn(r, place), r.Int63n(2)
		got, alarms := impl.EnvPut(d, e, v, place, a)
		if at < 0 || at >= d.Arrays[v].Size {
			outside++
			if alarms != impl.AlBounds {
				t.Fatal("no alarm", e, v, place, at)
			}
			continue
		}
		s.Arrs[v][at] = n
		if !impl.EnvHas(d, got, s) {
			t.Fatal(e, v, place, a, got, s)
		}
	}
	if outside < 1000 || outside > 15000 {
		t.Error("outside:", outside)
	}
}

// Promise 15, of this chapter.
func TestValuesShareNothing(t *testing.T) {
	d := wideDecl()
	r := rand.New(rand.NewSource(71))
	cut := func(e impl.Env) impl.Env {
		return impl.Env{Live: true, Ints: append(slices.Clone(e.Ints), iv(77, 77))[:5], Arrs: append(slices.Clone(e.Arrs), iv(78, 78))[:2]}
	}
	guard := func(words string, want bool) func(e impl.Env) impl.Env {
		return func(e impl.Env) impl.Env {
			l := append(post(words), impl.Tok{Op: 99, N: 99})
			g, _ := impl.Guard(d, l[:len(l)-1], want, e, 2)
			impl.ValOf(d, l[:len(l)-1], e, 2)
			if !slices.Equal(l, append(post(words), impl.Tok{Op: 99, N: 99})) {
				t.Error("Toks", words)
			}
			return g
		}
	}
	makes := []func(e impl.Env) impl.Env{
		func(e impl.Env) impl.Env { return impl.EnvSet(d, e, 0, e.Ints[0]) },
		func(e impl.Env) impl.Env { return impl.EnvSet(d, e, 4, iv(5, 6)) },
		func(e impl.Env) impl.Env { g, _ := impl.EnvPut(d, e, 0, iv(0, 0), e.Arrs[0]); return g },
		func(e impl.Env) impl.Env { g, _ := impl.EnvPut(d, e, 1, iv(0, 0), e.Arrs[1]); return g },
		func(e impl.Env) impl.Env { g, _ := impl.EnvPut(d, e, 1, iv(-1, 99), iv(5, 6)); return g },
		func(e impl.Env) impl.Env { g, _ := impl.EnvPut(d, e, 1, iv(99, 99), iv(5, 6)); return g },
	}
	for _, words := range []string{"true", "false", "b", "c", "c !", "x y <", "x x ==", "x 1 + y <", "1 2 <", "x y < c &", "x y < b |", "c true |", "c true &", "x 0 > y 0 > | z 0 > &", "x 0 a =="} {
		makes = append(makes, guard(words, true), guard(words, false))
	}
	kept := 0
	for range 40 {
		e := someBounds(r)
		for _, make := range makes {
			x := cut(e)
			g := make(x)
			if g.Live {
				kept++
			}
			again := make(x)
			for i := range g.Ints {
				g.Ints[i] = iv(-99, 99)
			}
			for i := range g.Arrs {
				g.Arrs[i] = iv(-98, 98)
			}
			g.Ints, g.Arrs = append(g.Ints, iv(1, 2)), append(g.Arrs, iv(3, 4))
			if !sameEnv(x, cut(e)) || g.Ints[len(g.Ints)-1] != iv(1, 2) || !sameEnv(again, make(x)) {
				t.Fatal("shared", x)
			}
			if x.Ints[:6][5] != iv(77, 77) || x.Arrs[:3][2] != iv(78, 78) {
				t.Fatal("written behind", x)
			}
		}
	}
	if kept < 500 {
		t.Error("kept only", kept)
	}
	if !sameDecl(d, wideDecl()) {
		t.Error("declaration")
	}
}
