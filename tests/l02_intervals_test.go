package tests

import (
	"math/big"
	"slices"
	"testing"

	"loop.example/g00719/impl"
)

func iv(lo, hi int64) impl.Interval { return impl.Interval{Lo: lo, Hi: hi} }

func live(lo, hi, alarms int64) impl.Val {
	return impl.Val{Iv: iv(lo, hi), Live: true, Alarms: alarms}
}

func dead(alarms int64) impl.Val { return impl.Val{Alarms: alarms} }

// intervalOps of the program, under the signs of exactOps.
func intervalOps() map[string]func(a, b impl.Interval) impl.Val {
	return map[string]func(a, b impl.Interval) impl.Val{
		"+": impl.IvAdd,
		"-": impl.IvSub,
		"*": impl.IvMul,
		"/": impl.IvQuo,
		"%": impl.IvRem,
	}
}

// intervalsOf: the right ones with ends among the numbers, which rise.
func intervalsOf(l []int64) []impl.Interval {
	var out []impl.Interval
	for i, lo := range l {
		for _, hi := range l[i:] {
			out = append(out, iv(lo, hi))
		}
	}
	return out
}

func smallNumbers() []int64 { return []int64{-4, -3, -2, -1, 0, 1, 2, 3, 4} }

// fewNumbers are so few that pairs of intervals between them, and numbers in these, can all be gone through.
func fewNumbers() []int64 {
	return []int64{low, low + 1, -1 << 62, -1 << 32, -3, -2, -1, 0, 1, 2, 7, 1 << 31, 1 << 62, top - 1, top}
}

func wrongIntervals() []impl.Interval {
	return []impl.Interval{iv(1, 0), iv(0, -1), iv(2, -2), iv(5, 4), iv(top, low), iv(top, top-1), iv(low+1, low)}
}

func TestIntervalsOrder(t *testing.T) {
	for _, r := range []struct {
		a    impl.Interval
		n    int64
		want bool
	}{{iv(-2, 3), -2, true}, {iv(-2, 3), 0, true}, {iv(-2, 3), 3, true}, {iv(-2, 3), -3, false}, {iv(-2, 3), 4, false}, {iv(5, 5), 5, true}, {iv(5, 5), 4, false}, {iv(5, 5), 6, false}, {iv(low, top), low, true}, {iv(low, top), top, true}, {iv(low, low), low, true}, {iv(top, top), low, false}, {iv(1, -1), 0, false}, {iv(1, -1), 1, false}, {iv(1, -1), -1, false}, {iv(top, low), 0, false}} {
		if impl.IvHas(r.a, r.n) != r.want {
			t.Error("has", r)
		}
	}
	small := intervalsOf(smallNumbers())
	for _, a := range small {
		if !impl.IvOk(a) || !impl.IvLeq(a, iv(low, top)) || !impl.IvLeq(a, a) {
			t.Error("right", a)
		}
		for _, b := range small {
			all := true
			for n := a.Lo; n <= a.Hi; n++ {
				all = all && impl.IvHas(b, n)
			}
			if impl.IvLeq(a, b) != all {
				t.Error("leq", a, b)
			}
		}
	}
}

// Promise 2: joins and meets.
func TestJoinIsLeastAndMeetIsBoth(t *testing.T) {
	for _, numbers := range [][]int64{{-3, -2, -1, 0, 1, 2}, {low, low + 1, -1, 0, top - 1, top}} {
		l := intervalsOf(numbers)
		for _, a := range l {
			for _, b := range l {
				j := impl.IvJoin(a, b)
				if !impl.IvLeq(a, j) || !impl.IvLeq(b, j) {
					t.Fatal("not all of both", a, b, j)
				}
				for _, c := range l {
					if impl.IvLeq(a, c) && impl.IvLeq(b, c) && !impl.IvLeq(j, c) {
						t.Fatal("not the least", a, b, j, c)
					}
				}
				m, ok := impl.IvMeet(a, b)
				some := false
				for _, n := range numbers {
					both := impl.IvHas(a, n) && impl.IvHas(b, n)
					some = some || both
					if both != (ok && impl.IvHas(m, n)) {
						t.Fatal("not what both have", a, b, m, n)
					}
				}
				if ok != some || !ok && m != iv(0, 0) {
					t.Fatal("meet", a, b, m, ok)
				}
			}
		}
	}
}

func TestWiden(t *testing.T) {
	for _, r := range []struct {
		a, b  impl.Interval
		steps []int64
		want  impl.Interval
	}{
		{iv(0, 5), iv(1, 4), []int64{2, 3}, iv(0, 5)},
		{iv(0, 5), iv(0, 5), []int64{-1, 6}, iv(0, 5)},
		{iv(0, 5), iv(-1, 6), nil, iv(low, top)},
		{iv(0, 5), iv(-1, 6), []int64{}, iv(low, top)},
		{iv(0, 5), iv(-1, 6), []int64{0, 5}, iv(low, top)},
		{iv(0, 5), iv(-2, 7), []int64{7, -2, 8, -3}, iv(-2, 7)},
		{iv(0, 5), iv(-2, 7), []int64{-9, 20, -4, 9, -4, 12, -7, 9, -1, 6}, iv(-4, 9)},
		{iv(0, 5), iv(-2, 3), []int64{-4, 8}, iv(-4, 5)},
		{iv(0, 5), iv(2, 7), []int64{-4, 8}, iv(0, 8)},
		{iv(0, 5), iv(8, 9), []int64{9}, iv(0, 9)},
		{iv(0, 5), iv(-9, -8), []int64{-9}, iv(-9, 5)},
		{iv(0, 5), iv(-2, 7), []int64{low, top}, iv(low, top)},
		{iv(0, 5), iv(low, top), []int64{0, 5}, iv(low, top)},
		{iv(low, top), iv(0, 0), []int64{0}, iv(low, top)},
		{iv(3, 3), iv(2, 4), []int64{2, 3, 4}, iv(2, 4)},
	} {
		given := slices.Clone(r.steps)
		if w := impl.IvWiden(r.a, r.b, r.steps); w != r.want {
			t.Error(r, w)
		}
		if !slices.Equal(given, r.steps) {
			t.Error("steps were written into:", given, r.steps)
		}
	}
}

func TestWidenedIsAboveBoth(t *testing.T) {
	l := intervalsOf([]int64{low, -7, -2, 0, 3, 9, top})
	for _, steps := range [][]int64{nil, {0}, {3, -2}, {9, 0, -7}, {top, low}} {
		for _, a := range l {
			for _, b := range l {
				if w := impl.IvWiden(a, b, steps); !impl.IvLeq(a, w) || !impl.IvLeq(b, w) {
					t.Error(a, b, steps, w)
				}
			}
		}
	}
}

func TestWidenTakesSoManySteps(t *testing.T) {
	steps := make([]int64, impl.MaxSteps+1)
	for i := range steps {
		steps[i] = 50
	}
	steps[impl.MaxSteps-1] = 8 // the last one that is still taken counts like the others
	if impl.MaxSteps != 100 {
		t.Error("limit", impl.MaxSteps)
	}
	if w := impl.IvWiden(iv(1, 5), iv(2, 7), steps[:100]); w != iv(1, 8) {
		t.Error("just as many", w)
	}
	if w := impl.IvWiden(iv(1, 5), iv(2, 7), steps[:99]); w != iv(1, 50) {
		t.Error("one fewer", w)
	}
	if w := impl.IvWiden(iv(1, 5), iv(2, 7), steps); w != iv(0, 0) {
		t.Error("one more", w)
	}
	if w := impl.IvWiden(iv(1, 5), iv(1, 5), steps); w != iv(0, 0) {
		t.Error("one more, of which none is needed", w)
	}
}

func TestOperationsAtTheirEdges(t *testing.T) {
	const over, div = impl.AlOver, impl.AlDiv
	ops := intervalOps()
	for _, r := range []struct {
		op   string
		a, b impl.Interval
		want impl.Val
	}{
		{"+", iv(2, 2), iv(3, 3), live(5, 5, 0)}, {"+", iv(-1, 4), iv(-2, 7), live(-3, 11, 0)},
		{"+", iv(top-1, top), iv(0, 0), live(top-1, top, 0)}, {"+", iv(top, top), iv(0, 1), live(top, top, over)},
		{"+", iv(low, low), iv(-1, 0), live(low, low, over)}, {"+", iv(low, top), iv(low, top), live(low, top, over)},
		{"+", iv(low, top), iv(0, 0), live(low, top, 0)}, {"+", iv(low, 0), iv(-1, 5), live(low, 5, over)},
		{"+", iv(top, top), iv(1, 2), dead(over)}, {"+", iv(low, -1), iv(low, low), dead(over)}, {"+", iv(low, 0), iv(low, low), live(low, low, over)},
		{"+", iv(low, low), iv(-1, -1), dead(over)},

		{"-", iv(2, 2), iv(3, 3), live(-1, -1, 0)}, {"-", iv(0, 0), iv(low, low), dead(over)}, {"-", iv(-1, 0), iv(low, low), live(top, top, over)},
		{"-", iv(-1, -1), iv(low, low), live(top, top, 0)}, {"-", iv(low, top), iv(low, top), live(low, top, over)},
		{"-", iv(low, low), iv(0, 1), live(low, low, over)}, {"-", iv(low, low), iv(1, 9), dead(over)}, {"-", iv(-2, 5), iv(top, top), live(low, 5-top, over)},

		{"*", iv(-2, 3), iv(4, 4), live(-8, 12, 0)}, {"*", iv(-2, 3), iv(-4, -4), live(-12, 8, 0)}, {"*", iv(-3, -2), iv(-5, -4), live(8, 15, 0)},
		{"*", iv(0, 0), iv(low, top), live(0, 0, 0)}, {"*", iv(low, low), iv(-1, -1), dead(over)}, {"*", iv(low, low), iv(-1, 1), live(low, top, over)},
		{"*", iv(low, low), iv(2, 9), dead(over)}, {"*", iv(low, low), iv(1, 9), live(low, low, over)}, {"*", iv(low, top), iv(low, top), live(low, top, over)},
		{"*", iv(low, low), iv(-9, 9), live(low, top, over)}, {"*", iv(top, top), iv(-2, 2), live(low, top, over)}, {"*", iv(top, top), iv(2, 2), dead(over)},
		{"*", iv(1<<62, 1<<62), iv(-2, 1), live(low, 1<<62, 0)}, {"*", iv(1<<62, 1<<62), iv(-2, 2), live(low, top, over)}, {"*", iv(-1<<62, 1<<62), iv(2, 2), live(low, top, over)},

		{"/", iv(20, 30), iv(3, 4), live(5, 10, 0)}, {"/", iv(-7, 9), iv(2, 2), live(-3, 4, 0)}, {"/", iv(-7, 9), iv(-2, -2), live(-4, 3, 0)},
		{"/", iv(1, 9), iv(0, 0), dead(div)}, {"/", iv(low, top), iv(0, 0), dead(div)}, {"/", iv(1, 9), iv(0, 3), live(0, 9, div)}, {"/", iv(5, 9), iv(0, 3), live(1, 9, div)},
		{"/", iv(5, 9), iv(-3, 0), live(-9, -1, div)}, {"/", iv(5, 9), iv(-2, 3), live(-9, 9, div)}, {"/", iv(5, 9), iv(-1, 1), live(-9, 9, div)}, {"/", iv(5, 5), iv(0, 1), live(5, 5, div)}, {"/", iv(5, 5), iv(-1, 0), live(-5, -5, div)},
		{"/", iv(low, low), iv(-1, -1), dead(over)}, {"/", iv(low, low), iv(-1, 0), dead(over | div)}, {"/", iv(low, low), iv(-1, 1), live(low, top, over|div)},
		{"/", iv(low, low), iv(-2, -1), live(1<<62, top, over)}, {"/", iv(low, low+1), iv(-1, -1), live(top, top, over)}, {"/", iv(low, top), iv(-1, -1), live(-top, top, over)},
		{"/", iv(low, top), iv(low, top), live(low, top, over|div)}, {"/", iv(low, top), iv(1, top), live(low, top, 0)}, {"/", iv(low, top), iv(low, -2), live(-(1<<62)+1, 1<<62, 0)}, {"/", iv(low, top), iv(low, low), live(0, 1, 0)},
		{"/", iv(low, low), iv(0, top), live(low, -1, div)}, {"/", iv(0, 0), iv(low, top), live(0, 0, div)},

		{"%", iv(7, 7), iv(3, 3), live(1, 1, 0)}, {"%", iv(-7, -7), iv(3, 3), live(-1, -1, 0)}, {"%", iv(7, 7), iv(-3, -3), live(1, 1, 0)}, {"%", iv(low, low), iv(-1, -1), live(0, 0, 0)}, {"%", iv(low, low), iv(top, top), live(-1, -1, 0)},
		{"%", iv(0, 0), iv(0, 0), dead(div)}, {"%", iv(low, top), iv(0, 0), dead(div)},
		{"%", iv(7, 7), iv(0, 3), live(0, 2, div)}, {"%", iv(7, 7), iv(-3, 0), live(0, 2, div)}, {"%", iv(7, 7), iv(0, 1), live(0, 0, div)}, {"%", iv(-7, 7), iv(-1, 0), live(0, 0, div)}, {"%", iv(7, 7), iv(-1, 1), live(0, 0, div)},
		{"%", iv(7, 8), iv(3, 3), live(0, 2, 0)}, {"%", iv(-8, -7), iv(3, 3), live(-2, 0, 0)}, {"%", iv(-8, 7), iv(3, 3), live(-2, 2, 0)}, {"%", iv(-1, 1), iv(3, 3), live(-1, 1, 0)}, {"%", iv(1, 2), iv(9, 9), live(0, 2, 0)}, {"%", iv(-2, 0), iv(9, 9), live(-2, 0, 0)},
		{"%", iv(-50, 60), iv(-9, 4), live(-8, 8, div)}, {"%", iv(-50, 60), iv(-4, 9), live(-8, 8, div)}, {"%", iv(-50, 60), iv(-9, -4), live(-8, 8, 0)}, {"%", iv(-50, 60), iv(4, 9), live(-8, 8, 0)},
		{"%", iv(low, top), iv(low, low), live(-top, top, 0)}, {"%", iv(low, top), iv(top, top), live(-top+1, top-1, 0)}, {"%", iv(low, top), iv(low, top), live(-top, top, div)}, {"%", iv(low, 5), iv(low, low), live(-top, 5, 0)}, {"%", iv(low+1, 5), iv(low, 0), live(low+1, 5, div)},
	} {
		if v := ops[r.op](r.a, r.b); v != r.want {
			t.Error(r.a, r.op, r.b, v, "want", r.want)
		}
	}
}

func TestNegIsZeroLess(t *testing.T) {
	for _, r := range []struct {
		a    impl.Interval
		want impl.Val
	}{{iv(0, 0), live(0, 0, 0)}, {iv(-2, 5), live(-5, 2, 0)}, {iv(3, 3), live(-3, -3, 0)}, {iv(low, low), dead(impl.AlOver)}, {iv(low, low+1), live(top, top, impl.AlOver)}, {iv(low, top), live(-top, top, impl.AlOver)}, {iv(-top, top), live(-top, top, 0)}, {iv(1, 0), dead(0)}, {iv(top, low), dead(0)}} {
		if v := impl.IvNeg(r.a); v != r.want {
			t.Error(r, v)
		}
	}
	for _, a := range intervalsOf(edgeNumbers()) {
		if v := impl.IvNeg(a); v != impl.IvSub(iv(0, 0), a) {
			t.Error(a, v)
		}
	}
}

// exactVal tells corners, without bounds, as the document does.
func exactVal(corners []*big.Int, alarms int64) impl.Val {
	if len(corners) == 0 {
		return dead(alarms)
	}
	least, greatest := corners[0], corners[0]
	for _, c := range corners {
		if !c.IsInt64() {
			alarms |= impl.AlOver
		}
		if c.Cmp(least) < 0 {
			least = c
		}
		if c.Cmp(greatest) > 0 {
			greatest = c
		}
	}
	if least.Cmp(exact(top)) > 0 || greatest.Cmp(exact(low)) < 0 {
		return dead(alarms)
	}
	v := live(low, top, alarms)
	if least.IsInt64() {
		v.Iv.Lo = least.Int64()
	}
	if greatest.IsInt64() {
		v.Iv.Hi = greatest.Int64()
	}
	return v
}

// exactCorners: of a quotient for each part of b beside 0 alone.
func exactCorners(sign string, a, b impl.Interval) ([]*big.Int, int64) {
	parts, alarms := []impl.Interval{b}, int64(0)
	if sign == "/" {
		parts = nil
		if b.Lo < 0 {
			parts = append(parts, iv(b.Lo, min(b.Hi, -1)))
		}
		if b.Hi > 0 {
			parts = append(parts, iv(max(b.Lo, 1), b.Hi))
		}
		if b.Lo <= 0 && b.Hi >= 0 {
			alarms = impl.AlDiv
		}
	}
	var corners []*big.Int
	for _, p := range parts {
		for _, x := range []int64{a.Lo, a.Hi} {
			for _, y := range []int64{p.Lo, p.Hi} {
				corners = append(corners, exactOps[sign](exact(x), exact(y)))
			}
		}
	}
	return corners, alarms
}

// exactRem is told of exact numbers, so that no distance wraps.
func exactRem(a, b impl.Interval) impl.Val {
	if b == iv(0, 0) {
		return dead(impl.AlDiv)
	}
	if a.Lo == a.Hi && b.Lo == b.Hi {
		n := exactOps["%"](exact(a.Lo), exact(b.Lo)).Int64()
		return live(n, n, 0)
	}
	m := new(big.Int).Abs(exact(b.Lo))
	if h := new(big.Int).Abs(exact(b.Hi)); h.Cmp(m) > 0 {
		m = h
	}
	m.Sub(m, exact(1))
	v := live(0, 0, 0)
	if b.Lo <= 0 && b.Hi >= 0 {
		v.Alarms = impl.AlDiv
	}
	if a.Lo < 0 {
		v.Iv.Lo = a.Lo
		if n := new(big.Int).Neg(m); n.Cmp(exact(a.Lo)) > 0 {
			v.Iv.Lo = n.Int64()
		}
	}
	if a.Hi > 0 {
		v.Iv.Hi = a.Hi
		if m.Cmp(exact(a.Hi)) < 0 {
			v.Iv.Hi = m.Int64()
		}
	}
	return v
}

func TestOperationsAreTheExactOnes(t *testing.T) {
	for _, l := range [][]impl.Interval{intervalsOf(fewNumbers()), intervalsOf(smallNumbers())} {
		for sign, op := range intervalOps() {
			for _, a := range l {
				for _, b := range l {
					want := exactRem(a, b)
					if sign != "%" {
						want = exactVal(exactCorners(sign, a, b))
					}
					if v := op(a, b); v != want {
						t.Fatal(a, sign, b, v, "want", want)
					}
				}
			}
		}
	}
}

// alarmOf is what must be told of x and y, and what they give when that is nothing.
func alarmOf(sign string, x, y int64) (int64, int64) {
	if y == 0 && (sign == "/" || sign == "%") {
		return 0, impl.AlDiv
	}
	n, over := fitted(exactOps[sign](exact(x), exact(y)))
	if over != 0 {
		return 0, impl.AlOver
	}
	return n, 0
}

func checkNumbersAreIn(t *testing.T, numbers []int64) {
	l := intervalsOf(numbers)
	for sign, op := range intervalOps() {
		for _, a := range l {
			for _, b := range l {
				v := op(a, b)
				for _, x := range numbers {
					for _, y := range numbers {
						if !impl.IvHas(a, x) || !impl.IvHas(b, y) {
							continue
						}
						n, alarm := alarmOf(sign, x, y)
						if alarm != 0 && v.Alarms&alarm == 0 {
							t.Fatal("no alarm", a, sign, b, v, x, y)
						}
						if alarm == 0 && !(v.Live && impl.IvHas(v.Iv, n)) {
							t.Fatal("not in it", a, sign, b, v, x, y, n)
						}
					}
				}
			}
		}
	}
}

// Promise 2: what two numbers give.
func TestNumbersAreInWhatIntervalsGive(t *testing.T) {
	checkNumbersAreIn(t, smallNumbers())
	checkNumbersAreIn(t, []int64{low, low + 1, -1 << 32, -2, -1, 0, 1, 3, 1 << 31, top - 1, top})
}

// noMore: all that a tells is told by b.
func noMore(a, b impl.Val) bool {
	return a.Alarms&^b.Alarms == 0 && (!a.Live || b.Live && impl.IvLeq(a.Iv, b.Iv))
}

// Promise 2: of more it gives more.
func TestOfMoreIntervalsGiveMore(t *testing.T) {
	for _, numbers := range [][]int64{{-3, -2, -1, 0, 1, 2, 3}, {low, low + 1, -2, -1, 0, 1, top}} {
		l := intervalsOf(numbers)
		for sign, op := range intervalOps() {
			for _, a := range l {
				for _, more := range l {
					if !impl.IvLeq(a, more) {
						continue
					}
					if !noMore(impl.IvNeg(a), impl.IvNeg(more)) {
						t.Fatal("less of", more, "than of", a)
					}
					for _, b := range l {
						if !noMore(op(a, b), op(more, b)) || !noMore(op(b, a), op(b, more)) {
							t.Fatal("less of", more, "than of", a, sign, b)
						}
					}
				}
			}
		}
	}
}

func TestNoIntervalIsRightWhoseEndsAreExchanged(t *testing.T) {
	for _, a := range wrongIntervals() {
		if impl.IvOk(a) {
			t.Error("right", a)
		}
		for _, n := range fewNumbers() {
			if impl.IvHas(a, n) {
				t.Error("has", a, n)
			}
		}
		checkRefused(t, a, a)
		for _, b := range []impl.Interval{iv(0, 0), iv(0, 1), iv(-3, 9), iv(low, top), iv(low, low), iv(top, top)} {
			checkRefused(t, a, b)
			checkRefused(t, b, a)
		}
		for _, b := range wrongIntervals() {
			checkRefused(t, a, b)
		}
	}
}

func checkRefused(t *testing.T, a, b impl.Interval) {
	t.Helper()
	if impl.IvLeq(a, b) {
		t.Error("leq", a, b)
	}
	if j := impl.IvJoin(a, b); j != iv(0, 0) {
		t.Error("join", a, b, j)
	}
	if m, ok := impl.IvMeet(a, b); ok || m != iv(0, 0) {
		t.Error("meet", a, b, m, ok)
	}
	if w := impl.IvWiden(a, b, []int64{-5, 5}); w != iv(0, 0) {
		t.Error("widen", a, b, w)
	}
	for sign, op := range intervalOps() {
		if v := op(a, b); v != dead(0) {
			t.Error(a, sign, b, v)
		}
	}
}
