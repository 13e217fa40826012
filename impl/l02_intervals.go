package impl

import "math"

const (
	MaxSteps = 100

	AlDiv    = 1
	AlBounds = 2
	AlOver   = 4
	AlAssert = 8
)

// Places in the array of numberOps.
const (
	opAdd = iota
	opSub
	opMul
	opQuo
	opCount
)

type Interval struct {
	Lo int64
	Hi int64
}

type Val struct {
	Iv     Interval
	Live   bool
	Alarms int64
}

// numberOp answers as the operations of chapter 1 do.
type numberOp func(a int64, b int64) (int64, int64)

// corner is what a numberOp answered: by over, then by n, corners lie as what they would be without bounds.
type corner struct {
	n    int64
	over int64
}

func IvOk(a Interval) bool { return a.Lo <= a.Hi }

func IvHas(a Interval, n int64) bool { return a.Lo <= n && n <= a.Hi }

func IvLeq(a Interval, b Interval) bool {
	return bothOk(a, b) && b.Lo <= a.Lo && a.Hi <= b.Hi
}

func IvJoin(a Interval, b Interval) Interval {
	if !bothOk(a, b) {
		return Interval{}
	}
	return Interval{Lo: min(a.Lo, b.Lo), Hi: max(a.Hi, b.Hi)}
}

func IvMeet(a Interval, b Interval) (Interval, bool) {
	m := Interval{Lo: max(a.Lo, b.Lo), Hi: min(a.Hi, b.Hi)}
	// Ends that are the wrong way round in one of both are so in m, too.
	if !IvOk(m) {
		return Interval{}, false
	}
	return m, true
}

func IvWiden(a Interval, b Interval, steps []int64) Interval {
	if !bothOk(a, b) || len(steps) > MaxSteps {
		return Interval{}
	}
	w := a
	if b.Lo < a.Lo {
		w.Lo = stepDown(b.Lo, steps)
	}
	if b.Hi > a.Hi {
		w.Hi = stepUp(b.Hi, steps)
	}
	return w
}

func IvAdd(a Interval, b Interval) Val { return byCorners(opAdd, a, b) }

func IvSub(a Interval, b Interval) Val { return byCorners(opSub, a, b) }

func IvMul(a Interval, b Interval) Val { return byCorners(opMul, a, b) }

func IvQuo(a Interval, b Interval) Val {
	if !bothOk(a, b) {
		return Val{}
	}
	var l []corner
	if below, ok := IvMeet(b, Interval{Lo: math.MinInt64, Hi: -1}); ok {
		l = withCorners(l, opQuo, a, below)
	}
	if above, ok := IvMeet(b, Interval{Lo: 1, Hi: math.MaxInt64}); ok {
		l = withCorners(l, opQuo, a, above)
	}
	v := spanOf(l)
	v.Alarms |= divAlarm(b)
	return v
}

func IvRem(a Interval, b Interval) Val {
	if !bothOk(a, b) {
		return Val{}
	}
	if b == (Interval{}) {
		return Val{Alarms: AlDiv}
	}
	return Val{Iv: restsOf(a, b), Live: true, Alarms: divAlarm(b)}
}

func IvNeg(a Interval) Val { return IvSub(Interval{}, a) }

func bothOk(a Interval, b Interval) bool { return IvOk(a) && IvOk(b) }

// stepDown is the greatest step that is not above n, the least int64 where there is none.
func stepDown(n int64, steps []int64) int64 {
	var best int64 = math.MinInt64
	for _, s := range steps {
		if s <= n {
			best = max(best, s)
		}
	}
	return best
}

// stepUp is the least step that is not below n, the greatest int64 where there is none.
func stepUp(n int64, steps []int64) int64 {
	var best int64 = math.MaxInt64
	for _, s := range steps {
		if s >= n {
			best = min(best, s)
		}
	}
	return best
}

// numberOps makes the array anew, as no table of functions stands at package level.
func numberOps() [opCount]numberOp {
	return [opCount]numberOp{opAdd: NumAdd, opSub: NumSub, opMul: NumMul, opQuo: NumQuo}
}

func byCorners(op int, a Interval, b Interval) Val {
	if !bothOk(a, b) {
		return Val{}
	}
	return spanOf(withCorners(nil, op, a, b))
}

func withCorners(l []corner, op int, a Interval, b Interval) []corner {
	do := numberOps()[op]
	for _, x := range [2]int64{a.Lo, a.Hi} {
		for _, y := range [2]int64{b.Lo, b.Hi} {
			n, over := do(x, y)
			l = append(l, corner{n: n, over: over})
		}
	}
	return l
}

func (c corner) less(d corner) bool {
	if c.over != d.over {
		return c.over < d.over
	}
	return c.n < d.n
}

// spanOf is what lies between the least and the greatest corner, as far as it fits; nothing when there are none.
func spanOf(l []corner) Val {
	if len(l) == 0 {
		return Val{}
	}
	least, greatest := l[0], l[0]
	for _, c := range l {
		if c.less(least) {
			least = c
		}
		if greatest.less(c) {
			greatest = c
		}
	}
	return between(least, greatest)
}

func between(least corner, greatest corner) Val {
	var v Val
	if least.over != 0 || greatest.over != 0 {
		v.Alarms = AlOver
	}
	// Beyond int64 on one side, and all between them with them.
	if least.over == greatest.over && least.over != 0 {
		return v
	}
	v.Live = true
	v.Iv = Interval{Lo: least.n, Hi: greatest.n}
	if least.over < 0 {
		v.Iv.Lo = math.MinInt64
	}
	if greatest.over > 0 {
		v.Iv.Hi = math.MaxInt64
	}
	return v
}

func divAlarm(b Interval) int64 {
	if IvHas(b, 0) {
		return AlDiv
	}
	return 0
}

// restsOf is for b that has something but 0.
func restsOf(a Interval, b Interval) Interval {
	if a.Lo == a.Hi && b.Lo == b.Hi {
		n := NumRem(a.Lo, b.Lo)
		return Interval{Lo: n, Hi: n}
	}
	most := max(shortOf(b.Lo), shortOf(b.Hi))
	return Interval{Lo: min(0, max(-most, a.Lo)), Hi: max(0, min(most, a.Hi))}
}

// shortOf is one less than how far n is from 0; of two ends of which one is not 0, that one's is the greater.
func shortOf(n int64) int64 {
	// The bits turned: how far the least int64 is does not fit, one less does.
	if n < 0 {
		return ^n
	}
	return n - 1
}
