package impl

import "strconv"

const MaxValue = 1000000000000

func FormatInt(n int) string {
	return strconv.Itoa(n)
}

func ParseInt(s string) (int, bool) {
	n, err := strconv.Atoi(s)
	if err != nil || !InRange(n, 0, MaxValue) {
		return 0, false
	}
	// Atoi also reads signs and leading zeros; only the text that FormatInt writes is accepted.
	if FormatInt(n) != s {
		return 0, false
	}
	return n, true
}

func Min(a int, b int) int {
	least, _ := leastAndGreatest(a, b)
	return least
}

func Max(a int, b int) int {
	_, greatest := leastAndGreatest(a, b)
	return greatest
}

func CeilDiv(a int, b int) int {
	if !InRange(a, 0, MaxValue) || !InRange(b, 1, MaxValue) {
		return 0
	}
	return (a + b - 1) / b
}

func Mod(p int, q int) int {
	if !InRange(q, 1, MaxValue) {
		return 0
	}
	remainder := p % q
	// Go's remainder has the sign of p.
	if remainder < 0 {
		remainder += q
	}
	return remainder
}

func InRange(n int, low int, high int) bool {
	return low <= n && n <= high
}

func leastAndGreatest(first int, rest ...int) (int, int) {
	least, greatest := first, first
	for _, n := range rest {
		if n < least {
			least = n
		}
		if n > greatest {
			greatest = n
		}
	}
	return least, greatest
}
