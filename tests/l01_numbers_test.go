package tests

import (
	"testing"

	"loop.example/g00719/impl"
)

// numberOps of the program, under the signs of exactOps.
func numberOps() map[string]func(a, b int64) (int64, int64) {
	return map[string]func(a, b int64) (int64, int64){
		"+": impl.NumAdd,
		"-": impl.NumSub,
		"*": impl.NumMul,
		"/": impl.NumQuo,
		"%": func(a, b int64) (int64, int64) { return impl.NumRem(a, b), 0 },
	}
}

func TestNumbersAtTheirEdges(t *testing.T) {
	ops := numberOps()
	for _, r := range []struct {
		op            string
		a, b, n, over int64
	}{
		{"+", 2, 3, 5, 0}, {"+", -2, 3, 1, 0}, {"+", 0, 0, 0, 0},
		{"+", top, 0, top, 0}, {"+", top - 1, 1, top, 0}, {"+", top, 1, 0, 1}, {"+", 1, top, 0, 1}, {"+", top, top, 0, 1},
		{"+", low, 0, low, 0}, {"+", low + 1, -1, low, 0}, {"+", low, -1, 0, -1}, {"+", -1, low, 0, -1}, {"+", low, low, 0, -1},
		{"+", low, top, -1, 0}, {"+", top, low, -1, 0},

		{"-", 2, 3, -1, 0}, {"-", -2, -3, 1, 0},
		{"-", 0, low, 0, 1}, {"-", -1, low, top, 0}, {"-", low, low, 0, 0}, {"-", low, 0, low, 0},
		{"-", 0, top, -top, 0}, {"-", -1, top, low, 0}, {"-", -2, top, 0, -1}, {"-", low, 1, 0, -1}, {"-", low, top, 0, -1},
		{"-", top, -1, 0, 1}, {"-", top, low, 0, 1}, {"-", top, top, 0, 0}, {"-", top - 1, -1, top, 0},

		{"*", 6, -7, -42, 0}, {"*", -6, -7, 42, 0}, {"*", 0, low, 0, 0}, {"*", low, 0, 0, 0}, {"*", 0, -1, 0, 0},
		{"*", low, 1, low, 0}, {"*", 1, low, low, 0}, {"*", low, -1, 0, 1}, {"*", -1, low, 0, 1}, {"*", top, -1, -top, 0},
		{"*", low, 2, 0, -1}, {"*", 2, low, 0, -1}, {"*", low, low, 0, 1}, {"*", low, top, 0, -1}, {"*", top, top, 0, 1},
		{"*", 1 << 62, 2, 0, 1}, {"*", 1 << 62, -2, low, 0}, {"*", -1 << 62, 2, low, 0}, {"*", -1 << 62, -2, 0, 1},
		{"*", 1 << 32, 1 << 32, 0, 1}, {"*", 1 << 32, -1 << 32, 0, -1}, {"*", 3037000499, 3037000499, 9223372030926249001, 0}, {"*", 3037000500, 3037000500, 0, 1},
		{"*", top / 7, 7, top, 0}, {"*", top/7 + 1, 7, 0, 1}, {"*", top / 7, -7, -top, 0}, {"*", top/7 + 1, -7, 0, -1},

		{"/", 7, 2, 3, 0}, {"/", -7, 2, -3, 0}, {"/", 7, -2, -3, 0}, {"/", -7, -2, 3, 0}, {"/", 1, 2, 0, 0}, {"/", -1, 2, 0, 0},
		{"/", low, -1, 0, 1}, {"/", low, 1, low, 0}, {"/", low + 1, -1, top, 0}, {"/", top, -1, -top, 0}, {"/", low, low, 1, 0}, {"/", low, top, -1, 0}, {"/", top, low, 0, 0}, {"/", low, -2, 1 << 62, 0},
		{"/", 5, 0, 0, 0}, {"/", 0, 0, 0, 0}, {"/", low, 0, 0, 0}, {"/", top, 0, 0, 0}, {"/", 0, low, 0, 0},

		{"%", 7, 2, 1, 0}, {"%", -7, 2, -1, 0}, {"%", 7, -2, 1, 0}, {"%", -7, -2, -1, 0}, {"%", 6, -2, 0, 0}, {"%", -6, 2, 0, 0},
		{"%", low, -1, 0, 0}, {"%", low, top, -1, 0}, {"%", low, low, 0, 0}, {"%", top, low, top, 0}, {"%", low + 1, low, low + 1, 0}, {"%", low, 10, -8, 0},
		{"%", 5, 0, 0, 0}, {"%", -5, 0, 0, 0}, {"%", low, 0, 0, 0},
	} {
		if n, over := ops[r.op](r.a, r.b); n != r.n || over != r.over {
			t.Errorf("%d %s %d: %d, %d; want %d, %d", r.a, r.op, r.b, n, over, r.n, r.over)
		}
	}
}

func TestNumbersAreTheExactOnes(t *testing.T) {
	l := edgeNumbers()
	for sign, op := range numberOps() {
		for _, a := range l {
			for _, b := range l {
				var n, over int64
				if b != 0 || sign != "/" && sign != "%" {
					n, over = fitted(exactOps[sign](exact(a), exact(b)))
				}
				if n1, over1 := op(a, b); n1 != n || over1 != over {
					t.Fatalf("%d %s %d: %d, %d; want %d, %d", a, sign, b, n1, over1, n, over)
				}
			}
		}
	}
}

// Promise 1.
func TestNumbersComeBack(t *testing.T) {
	sums, products, quotients := 0, 0, 0
	l := edgeNumbers()
	for _, a := range l {
		for _, b := range l {
			if n, over := impl.NumAdd(a, b); over == 0 {
				sums++
				if back, over := impl.NumSub(n, b); back != a || over != 0 {
					t.Fatalf("%d + %d is %d, but less what was added %d, %d", a, b, n, back, over)
				}
			}
			if n, over := impl.NumMul(a, b); over == 0 && b != 0 {
				products++
				if back, over := impl.NumQuo(n, b); back != a || over != 0 {
					t.Fatalf("%d * %d is %d, but by the latter %d, %d", a, b, n, back, over)
				}
			}
			if n, over := impl.NumQuo(a, b); over == 0 && b != 0 {
				quotients++
				times, over1 := impl.NumMul(n, b)
				back, over2 := impl.NumAdd(times, impl.NumRem(a, b))
				if back != a || over1 != 0 || over2 != 0 {
					t.Fatalf("%d / %d is %d, but comes back as %d (%d, %d)", a, b, n, back, over1, over2)
				}
			}
		}
	}
	if sums == 0 || products == 0 || quotients == 0 {
		t.Error("nothing was asked:", sums, products, quotients)
	}
}
