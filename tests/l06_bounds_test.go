package tests

import (
	"math/rand"
	"slices"
	"testing"

	"loop.example/g00719/impl"
)

func sameEnv(a, b impl.Env) bool {
	return a.Live == b.Live && slices.Equal(a.Ints, b.Ints) && slices.Equal(a.Arrs, b.Arrs)
}

// smallDecl is so small that all that is between a few numbers can be gone through.
func smallDecl() impl.Decl {
	return impl.Decl{Vars: []string{"x"}, Flags: []string{"b"}, Arrays: []impl.Arr{{Name: "a", Size: 2}}}
}

func smallEnv(x, a impl.Interval) impl.Env {
	return impl.Env{Live: true, Ints: []impl.Interval{x}, Arrs: []impl.Interval{a}}
}

func smallStore(x, first, second int64) impl.Store {
	return impl.Store{Ints: []int64{x}, Flags: []bool{false}, Arrs: [][]int64{{first, second}}}
}

// smallEnvs: the one that is not Live, and all whose ends are among the numbers, which rise.
func smallEnvs(numbers []int64) []impl.Env {
	l := []impl.Env{{}}
	for _, x := range intervalsOf(numbers) {
		for _, a := range intervalsOf(numbers) {
			l = append(l, smallEnv(x, a))
		}
	}
	return l
}

func smallStores(numbers []int64) []impl.Store {
	var l []impl.Store
	for _, x := range numbers {
		for _, first := range numbers {
			for _, second := range numbers {
				l = append(l, smallStore(x, first, second))
			}
		}
	}
	return l
}

// someEnv is one of wideDecl that is Live.
func someEnv(r *rand.Rand) impl.Env {
	few := intervalsOf(fewNumbers())
	e := impl.Env{Live: true}
	for range 5 {
		e.Ints = append(e.Ints, few[r.Intn(len(few))])
	}
	for range 2 {
		e.Arrs = append(e.Arrs, few[r.Intn(len(few))])
	}
	return e
}

// wrongEnvs are none of wideDecl, each for one reason alone.
func wrongEnvs() []impl.Env {
	var l []impl.Env
	change := func(do func(e *impl.Env)) {
		e := impl.Env{Live: true, Ints: make([]impl.Interval, 5), Arrs: make([]impl.Interval, 2)}
		do(&e)
		l = append(l, e)
	}
	change(func(e *impl.Env) { e.Live = false })
	change(func(e *impl.Env) { e.Live, e.Ints = false, nil })
	change(func(e *impl.Env) { e.Live, e.Arrs = false, nil })
	change(func(e *impl.Env) { e.Live, e.Arrs, e.Ints = false, nil, e.Ints[:1] })
	change(func(e *impl.Env) { e.Ints = nil })
	change(func(e *impl.Env) { e.Arrs = nil })
	change(func(e *impl.Env) { e.Ints = e.Ints[:4] })
	change(func(e *impl.Env) { e.Ints = append(e.Ints, iv(0, 0)) })
	change(func(e *impl.Env) { e.Arrs = e.Arrs[:1] })
	change(func(e *impl.Env) { e.Arrs = append(e.Arrs, iv(0, 0)) })
	change(func(e *impl.Env) { e.Ints, e.Arrs = e.Ints[:4], append(e.Arrs, iv(0, 0)) })
	for i := range 5 {
		change(func(e *impl.Env) { e.Ints[i] = iv(1, 0) })
	}
	for i := range 2 {
		change(func(e *impl.Env) { e.Arrs[i] = iv(top, low) })
	}
	return append(l, impl.Env{Live: true})
}

func TestRightBounds(t *testing.T) {
	r := rand.New(rand.NewSource(6))
	for range 100 {
		if e := someEnv(r); !impl.EnvOk(wideDecl(), e) || !impl.EnvLeq(wideDecl(), e, e) {
			t.Error(e)
		}
	}
	for _, d := range []impl.Decl{{}, smallDecl(), wideDecl(), {Flags: []string{"b"}}} {
		if !impl.EnvOk(d, impl.Env{}) || !impl.EnvOk(d, impl.Env{Ints: []impl.Interval{}, Arrs: []impl.Interval{}}) || impl.EnvOk(d, impl.Env{Live: true}) != (len(d.Vars)+len(d.Arrays) == 0) {
			t.Error(d)
		}
	}
	for i, e := range wrongEnvs() {
		if impl.EnvOk(wideDecl(), e) {
			t.Error("wrong one", i)
		}
	}
	for _, d := range wrongDecls() {
		full := impl.Env{Live: true, Ints: make([]impl.Interval, len(d.Vars)), Arrs: make([]impl.Interval, len(d.Arrays))}
		if impl.EnvOk(d, impl.Env{}) || impl.EnvOk(d, full) {
			t.Error(d)
		}
	}
}

func TestBoundsHave(t *testing.T) {
	d := smallDecl()
	numbers := []int64{-2, -1, 0, 1, 2}
	for _, e := range smallEnvs([]int64{-1, 0, 1}) {
		for _, s := range smallStores(numbers) {
			want := e.Live
			if e.Live {
				for _, n := range s.Arrs[0] {
					want = want && e.Arrs[0].Lo <= n && n <= e.Arrs[0].Hi
				}
				want = want && e.Ints[0].Lo <= s.Ints[0] && s.Ints[0] <= e.Ints[0].Hi
			}
			if impl.EnvHas(d, e, s) != want {
				t.Fatal(e, s)
			}
			s.Flags[0] = true
			if impl.EnvHas(d, e, s) != want {
				t.Fatal("flags", e, s)
			}
		}
	}
	// Each number of each variable and array counts.
	wide := impl.Env{Live: true, Ints: slices.Repeat([]impl.Interval{iv(0, 150)}, 5), Arrs: []impl.Interval{iv(4, 4), iv(0, 150)}}
	if !impl.EnvHas(wideDecl(), wide, wideStore(0, 150, 7, true, false)) {
		t.Error("has")
	}
	for i := range 5 + 1 + 16 {
		for _, n := range []int64{-1, 151, low, top} {
			s := wideStore(0, 150, 7, true, false)
			switch {
			case i < 5:
				s.Ints[i] = n
			case i == 5:
				s.Arrs[0][0] = n
			default:
				s.Arrs[1][i-6] = n
			}
			if impl.EnvHas(wideDecl(), wide, s) {
				t.Error(i, n)
			}
		}
	}
	all := smallEnv(iv(low, top), iv(low, low))
	if !impl.EnvHas(d, all, smallStore(top, low, low)) || !impl.EnvHas(d, all, smallStore(low, low, low)) || impl.EnvHas(d, all, smallStore(0, low+1, low)) {
		t.Error("ends")
	}
	if !impl.EnvHas(impl.Decl{}, impl.Env{Live: true}, impl.Store{}) || impl.EnvHas(impl.Decl{}, impl.Env{}, impl.Store{}) {
		t.Error("nothing")
	}
}

// Promise 6, over all small ones.
func TestJoinsAndMeetsOfBounds(t *testing.T) {
	d := smallDecl()
	for _, numbers := range [][]int64{{-1, 0, 1}, {low, 0, top}} {
		envs, stores := smallEnvs(numbers), smallStores(numbers)
		for _, a := range envs {
			for _, b := range envs {
				j, m := impl.EnvJoin(d, a, b), impl.EnvMeet(d, a, b)
				if !impl.EnvOk(d, j) || !impl.EnvOk(d, m) || j.Live != (a.Live || b.Live) || !a.Live && !sameEnv(j, b) || !b.Live && !sameEnv(j, a) {
					t.Fatal(a, b, j, m)
				}
				if !impl.EnvLeq(d, a, j) || !impl.EnvLeq(d, b, j) || !impl.EnvLeq(d, m, a) || !impl.EnvLeq(d, m, b) {
					t.Fatal("not above, or not below", a, b, j, m)
				}
				within, some := true, false
				for _, s := range stores {
					inA, inB := impl.EnvHas(d, a, s), impl.EnvHas(d, b, s)
					if (inA || inB) && !impl.EnvHas(d, j, s) || (inA && inB) != impl.EnvHas(d, m, s) {
						t.Fatal(a, b, s, j, m)
					}
					within = within && (!inA || inB)
					some = some || inA && inB
				}
				if impl.EnvLeq(d, a, b) != within || m.Live != some {
					t.Fatal(a, b, within, m)
				}
				for _, c := range envs {
					if impl.EnvLeq(d, a, c) && impl.EnvLeq(d, b, c) && !impl.EnvLeq(d, j, c) {
						t.Fatal("not the least", a, b, j, c)
					}
				}
			}
		}
	}
}

// Promise 6: what is widened is above both.
func TestWidenedBounds(t *testing.T) {
	d := smallDecl()
	envs := smallEnvs([]int64{-1, 0, 1})
	for _, steps := range [][]int64{nil, {}, {0}, {-1, 1}, {1, 0, -1}, {-5, 5}, {low, top}, {-3, 0, 9}} {
		for _, a := range envs {
			for _, b := range envs {
				w := impl.EnvWiden(d, a, b, steps)
				if !impl.EnvOk(d, w) || !impl.EnvLeq(d, a, w) || !impl.EnvLeq(d, b, w) {
					t.Fatal("not above", a, b, steps, w)
				}
				want := impl.EnvJoin(d, a, b)
				if a.Live && b.Live {
					want = smallEnv(impl.IvWiden(a.Ints[0], b.Ints[0], steps), impl.IvWiden(a.Arrs[0], b.Arrs[0], steps))
				}
				if !sameEnv(w, want) {
					t.Fatal(a, b, steps, w)
				}
			}
		}
	}
	a, b := smallEnv(iv(0, 5), iv(0, 5)), smallEnv(iv(-1, 5), iv(0, 6))
	for _, r := range []struct {
		steps []int64
		want  impl.Env
	}{{nil, smallEnv(iv(low, 5), iv(0, top))}, {[]int64{-4, 9}, smallEnv(iv(-4, 5), iv(0, 9))}, {[]int64{9, -4, -1, 6}, smallEnv(iv(-1, 5), iv(0, 6))}, {[]int64{0, 5}, smallEnv(iv(low, 5), iv(0, top))}} {
		if w := impl.EnvWiden(d, a, b, r.steps); !sameEnv(w, r.want) {
			t.Error(r, w)
		}
	}
	many := slices.Repeat([]int64{-7}, 101)
	for _, r := range [][2]impl.Env{{a, b}, {a, {}}, {{}, b}, {{}, {}}} {
		if w := impl.EnvWiden(d, r[0], r[1], many); !sameEnv(w, impl.Env{}) {
			t.Error("101", w)
		}
		if w := impl.EnvWiden(d, r[0], r[1], many[:100]); w.Live != (r[0].Live || r[1].Live) || r[0].Live && r[1].Live && w.Ints[0] != iv(-7, 5) {
			t.Error("100", w)
		}
	}
}

// Each interval goes with the one at its own place.
func TestBoundsPlaceByPlace(t *testing.T) {
	d := wideDecl()
	r := rand.New(rand.NewSource(66))
	apart, within := 0, 0
	for range 5000 {
		a, b := someEnv(r), someEnv(r)
		if r.Intn(2) == 0 {
			b = impl.Env{Live: true, Ints: slices.Clone(a.Ints), Arrs: slices.Clone(a.Arrs)}
			if i := r.Intn(7); i < 5 {
				b.Ints[i] = someEnv(r).Ints[0]
			} else {
				b.Arrs[i-5] = someEnv(r).Arrs[0]
			}
		}
		steps := []int64{-4, r.Int63n(9), 1 << 40, -1 << 40}
		j, w, m := impl.Env{Live: true}, impl.Env{Live: true}, impl.Env{Live: true}
		leq := true
		for i := range 7 {
			pick := func(e *impl.Env) *[]impl.Interval {
				if i < 5 {
					return &e.Ints
				}
				return &e.Arrs
			}
			x, y := (*pick(&a))[i%5], (*pick(&b))[i%5]
			meet, ok := impl.IvMeet(x, y)
			m.Live = m.Live && ok
			leq = leq && impl.IvLeq(x, y)
			*pick(&j) = append(*pick(&j), impl.IvJoin(x, y))
			*pick(&w) = append(*pick(&w), impl.IvWiden(x, y, steps))
			*pick(&m) = append(*pick(&m), meet)
		}
		if !m.Live {
			m = impl.Env{}
			apart++
		}
		if leq {
			within++
		}
		if impl.EnvLeq(d, a, b) != leq || !sameEnv(impl.EnvJoin(d, a, b), j) || !sameEnv(impl.EnvWiden(d, a, b, steps), w) || !sameEnv(impl.EnvMeet(d, a, b), m) {
			t.Fatal(a, b)
		}
	}
	if apart < 500 || within < 500 {
		t.Error("apart, within:", apart, within)
	}
}

func TestMeetThatIsEmptyInOneIntervalAlone(t *testing.T) {
	d := wideDecl()
	base := func() impl.Env {
		return impl.Env{Live: true, Ints: slices.Repeat([]impl.Interval{iv(-3, 3)}, 5), Arrs: slices.Repeat([]impl.Interval{iv(-3, 3)}, 2)}
	}
	for i := range 7 {
		for _, r := range []struct {
			x    impl.Interval
			live bool
		}{{iv(4, 9), false}, {iv(-9, -4), false}, {iv(3, 9), true}, {iv(-9, -3), true}, {iv(low, -4), false}, {iv(4, top), false}, {iv(low, top), true}} {
			b := base()
			if i < 5 {
				b.Ints[i] = r.x
			} else {
				b.Arrs[i-5] = r.x
			}
			for _, m := range []impl.Env{impl.EnvMeet(d, base(), b), impl.EnvMeet(d, b, base())} {
				if m.Live != r.live || !r.live && !sameEnv(m, impl.Env{}) || !impl.EnvOk(d, m) {
					t.Error(i, r, m)
				}
			}
		}
	}
}

// checkNoBounds: of a and b, of which one at least is not right, or of a wrong declaration.
func checkNoBounds(t *testing.T, d impl.Decl, a, b impl.Env) {
	t.Helper()
	if impl.EnvLeq(d, a, b) {
		t.Error("leq", d, a, b)
	}
	for _, e := range []impl.Env{impl.EnvJoin(d, a, b), impl.EnvMeet(d, a, b), impl.EnvWiden(d, a, b, nil), impl.EnvWiden(d, a, b, []int64{1})} {
		if !sameEnv(e, impl.Env{}) {
			t.Error(d, a, b, e)
		}
	}
}

func TestBoundsOfWhatIsWrong(t *testing.T) {
	d := wideDecl()
	right := someEnv(rand.New(rand.NewSource(7)))
	zero := impl.Env{Live: true, Ints: make([]impl.Interval, 5), Arrs: make([]impl.Interval, 2)}
	for i, e := range wrongEnvs() {
		for _, other := range []impl.Env{right, zero, {}, e} {
			checkNoBounds(t, d, e, other)
			checkNoBounds(t, d, other, e)
		}
		if impl.EnvHas(d, e, impl.StoreNew(d)) {
			t.Error("has", i)
		}
	}
	for i, s := range wrongStores() {
		all := impl.Env{Live: true, Ints: slices.Repeat([]impl.Interval{iv(low, top)}, 5), Arrs: slices.Repeat([]impl.Interval{iv(low, top)}, 2)}
		if impl.EnvHas(d, all, s) || impl.EnvHas(d, impl.Env{}, s) {
			t.Error("store", i)
		}
	}
	for _, d := range wrongDecls() {
		full := impl.Env{Live: true, Ints: make([]impl.Interval, len(d.Vars)), Arrs: make([]impl.Interval, len(d.Arrays))}
		s := impl.Store{Ints: make([]int64, len(d.Vars)), Flags: make([]bool, len(d.Flags)), Arrs: make([][]int64, len(d.Arrays))}
		for _, a := range []impl.Env{full, {}} {
			for _, b := range []impl.Env{full, {}} {
				checkNoBounds(t, d, a, b)
			}
		}
		if impl.EnvHas(d, full, s) {
			t.Error(d)
		}
	}
}

// Promise 15, of this chapter.
func TestBoundsShareNothing(t *testing.T) {
	d := wideDecl()
	r := rand.New(rand.NewSource(8))
	cut := func(e impl.Env) impl.Env {
		return impl.Env{Live: true, Ints: append(slices.Clone(e.Ints), iv(77, 77))[:5], Arrs: append(slices.Clone(e.Arrs), iv(78, 78))[:2]}
	}
	for range 50 {
		a, b := someEnv(r), someEnv(r)
		keptA, keptB := cut(a), cut(b)
		steps := []int64{5, -5, 9}
		for _, make := range []func(x, y impl.Env) impl.Env{
			func(x, y impl.Env) impl.Env { return impl.EnvJoin(d, x, y) },
			func(x, y impl.Env) impl.Env { return impl.EnvMeet(d, x, y) },
			func(x, y impl.Env) impl.Env { return impl.EnvWiden(d, x, y, steps[:2]) },
			func(x, y impl.Env) impl.Env { return impl.EnvJoin(d, impl.Env{}, y) },
			func(x, y impl.Env) impl.Env { return impl.EnvJoin(d, x, impl.Env{}) },
			func(x, y impl.Env) impl.Env { return impl.EnvWiden(d, impl.Env{}, y, steps[:2]) },
			func(x, y impl.Env) impl.Env { return impl.EnvWiden(d, x, impl.Env{}, steps[:2]) },
			func(x, y impl.Env) impl.Env { return impl.EnvMeet(d, x, x) },
		} {
			x, y := cut(a), cut(b)
			e := make(x, y)
			for i := range e.Ints {
				e.Ints[i] = iv(-99, 99)
			}
			for i := range e.Arrs {
				e.Arrs[i] = iv(-98, 98)
			}
			e.Ints, e.Arrs = append(e.Ints, iv(1, 2)), append(e.Arrs, iv(3, 4))
			if !sameEnv(x, keptA) || !sameEnv(y, keptB) || e.Ints[len(e.Ints)-1] != iv(1, 2) {
				t.Fatal("shared", x, y)
			}
			if x.Ints[:6][5] != iv(77, 77) || y.Ints[:6][5] != iv(77, 77) || x.Arrs[:3][2] != iv(78, 78) || y.Arrs[:3][2] != iv(78, 78) || !slices.Equal(steps, []int64{5, -5, 9}) {
				t.Fatal("written behind", x, y)
			}
		}
	}
}
