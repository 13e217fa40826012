package tests

import (
	"math"
	"math/big"
	"sort"
)

const (
	low = math.MinInt64
	top = math.MaxInt64
)

// edgeNumbers rise: what lies about 0, about the roots of the greatest number, about its halves, and at both ends.
func edgeNumbers() []int64 {
	seen := map[int64]bool{}
	var l []int64
	for _, mid := range []int64{0, 10, 100, 3037000500, 1 << 31, 1 << 32, 1 << 61, 1 << 62, top / 3, top - 2} {
		for _, n := range []int64{mid - 2, mid - 1, mid, mid + 1, mid + 2} {
			for _, m := range []int64{n, -n, -n - 1} {
				if !seen[m] {
					seen[m] = true
					l = append(l, m)
				}
			}
		}
	}
	sort.Slice(l, func(i, j int) bool { return l[i] < l[j] })
	return l
}

func exact(n int64) *big.Int { return big.NewInt(n) }

// fitted tells an exact number as the functions of chapter 1 do.
func fitted(n *big.Int) (int64, int64) {
	if n.IsInt64() {
		return n.Int64(), 0
	}
	return 0, int64(n.Sign())
}

// exactOps work without bounds; a quotient by 0 is not asked of them.
var exactOps = map[string]func(a, b *big.Int) *big.Int{
	"+": func(a, b *big.Int) *big.Int { return new(big.Int).Add(a, b) },
	"-": func(a, b *big.Int) *big.Int { return new(big.Int).Sub(a, b) },
	"*": func(a, b *big.Int) *big.Int { return new(big.Int).Mul(a, b) },
	"/": func(a, b *big.Int) *big.Int { return new(big.Int).Quo(a, b) },
	"%": func(a, b *big.Int) *big.Int { return new(big.Int).Rem(a, b) },
}
