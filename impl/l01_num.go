package impl

import "strconv"

const MaxInt = 1000000000000

func FormatInt(n int) string {
	return strconv.Itoa(n)
}

func ParseInt(s string) (int, bool) {
	n, err := strconv.Atoi(s)
	// Atoi also takes signs and leading zeros, which FormatInt does not write.
	if err != nil || !InRange(n, 0, MaxInt) || FormatInt(n) != s {
		return 0, false
	}
	return n, true
}

func Min(a int, b int) int {
	return least(a, b)
}

func Max(a int, b int) int {
	return greatest(a, b)
}

// The first number is a parameter of its own, so that there is always a least one.
func least(first int, others ...int) int {
	for _, n := range others {
		if n < first {
			first = n
		}
	}
	return first
}

// The first number is a parameter of its own, so that there is always a greatest one.
func greatest(first int, others ...int) int {
	for _, n := range others {
		if n > first {
			first = n
		}
	}
	return first
}

func CeilDiv(a int, b int) int {
	if !InRange(a, 0, MaxInt) || !InRange(b, 1, MaxInt) {
		return 0
	}
	// Both are at most MaxInt, so that the sum cannot wrap around.
	return (a + b - 1) / b
}

func Mod(n int, m int) int {
	if !InRange(m, 1, MaxInt) {
		return 0
	}
	remainder := n % m
	// Go's remainder has the sign of n.
	if remainder < 0 {
		remainder += m
	}
	return remainder
}

func InRange(n int, a int, b int) bool {
	return a <= n && n <= b
}
