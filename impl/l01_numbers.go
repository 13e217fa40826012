package impl

// The least int64 lies farther from 0 than the greatest one, by just one.
const leastDistance = 1 << 63

func NumAdd(a int64, b int64) (int64, int64) {
	sum := int64(uint64(a) + uint64(b))
	// A sum that does not fit has, wrapped, the sign of neither of both.
	if signBit((a^sum)&(b^sum)) == 1 {
		return 0, sideOf(a)
	}
	return sum, 0
}

func NumSub(a int64, b int64) (int64, int64) {
	rest := int64(uint64(a) - uint64(b))
	// Only a difference of unlike signs may not fit, and then it has, wrapped, not that of a.
	if signBit((a^b)&(a^rest)) == 1 {
		return 0, sideOf(a)
	}
	return rest, 0
}

func NumMul(a int64, b int64) (int64, int64) {
	x, y := distance(a), distance(b)
	// Asked by a quotient, as the product of both might wrap even in uint64.
	if y != 0 && x > leastDistance/y {
		return 0, sideOf(a ^ b)
	}
	return atDistance(x*y, signBit(a^b))
}

func NumQuo(a int64, b int64) (int64, int64) {
	if b == 0 {
		return 0, 0
	}
	return atDistance(distance(a)/distance(b), signBit(a^b))
}

func NumRem(a int64, b int64) int64 {
	if b == 0 {
		return 0
	}
	return a % b
}

// signBit is 1 for what is below 0, else 0.
func signBit(n int64) uint64 { return uint64(n) >> 63 }

// sideOf is -1 for what is below 0, else 1.
func sideOf(n int64) int64 { return n>>63 | 1 }

// distance is in uint64, as that of the least int64 from 0 does not fit into int64.
func distance(n int64) uint64 {
	if n < 0 {
		return -uint64(n)
	}
	return uint64(n)
}

// atDistance is the number so far from 0, below it when negative is 1; told as all of this chapter are.
func atDistance(far uint64, negative uint64) (int64, int64) {
	if negative == 1 {
		return belowZero(far)
	}
	if far >= leastDistance {
		return 0, 1
	}
	return int64(far), 0
}

func belowZero(far uint64) (int64, int64) {
	if far > leastDistance {
		return 0, -1
	}
	return int64(-far), 0
}
