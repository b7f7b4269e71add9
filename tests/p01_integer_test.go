package tests

import (
	"fmt"
	"math"
	"strings"
	"testing"

	"loop.example/g00591/impl"
)

func TestP01ParseIntInvertsFormatInt(t *testing.T) {
	numbers := []int{17, 99, 100, 101, 120, 999999, impl.MaxValue / 2, impl.MaxValue - 1, impl.MaxValue}
	for n := range 10000 {
		numbers = append(numbers, n)
	}
	for _, n := range numbers {
		s := impl.FormatInt(n)
		if got, ok := impl.ParseInt(s); !ok || got != n {
			t.Errorf("ParseInt(%q) = %d, %v", s, got, ok)
		}
	}
}

func TestP01ParseIntOfWrittenNumbers(t *testing.T) {
	cases := []struct {
		text string
		want int
	}{
		{"0", 0}, {"1", 1}, {"9", 9}, {"10", 10}, {"17", 17}, {"100", 100}, {"1001", 1001},
		{"9223372036", 9223372036}, {"999999999999", 999999999999}, {"1000000000000", 1000000000000},
	}
	for _, c := range cases {
		if n, ok := impl.ParseInt(c.text); !ok || n != c.want {
			t.Errorf("ParseInt(%q) = %d, %v", c.text, n, ok)
		}
	}
}

func TestP01ParseIntRejects(t *testing.T) {
	texts := []string{
		// empty, and nothing but a sign or space
		"", "-", "+", " ", "\n", "\x00",
		// leading zeros
		"00", "000", "01", "007", "017", "0001", "01000000000000", strings.Repeat("0", 1000), strings.Repeat("0", 1000) + "1",
		// signs
		"-0", "+0", "-1", "+1", "-17", "+17", "--1", "+-1", "-01", "1-", "1+", "-1000000000000", "-9223372036854775808",
		// beyond MaxValue, beyond int, and numbers that wrap around to small ones
		"1000000000001", "1000000000010", "9999999999999", "10000000000000", "9223372036854775807",
		"9223372036854775808", "18446744073709551616", "18446744073709551617", "18446744073709551633",
		"340282366920938463463374607431768211457", strings.Repeat("9", 1000),
		// other bytes
		" 1", "1 ", "\t1", "1\n", "1\r\n", "1\x00", "\x001", "1 2", "1,000", "1_000", "1.0", "1.", ".1", "1e3",
		"0x10", "0b1", "0o7", "1x", "x1", "x", "a", "/", ":", "1/", "1:", "NaN", "Inf", "\xff", "1\xff",
		"\uff11", "\u0661", "\u00b2", "\u22121",
	}
	for _, s := range texts {
		if n, ok := impl.ParseInt(s); ok || n != 0 {
			t.Errorf("ParseInt(%q) = %d, %v", s, n, ok)
		}
	}
}

func TestP01ParseIntOfAllShortTexts(t *testing.T) {
	valid := map[string]int{}
	for n := range 10000 {
		valid[fmt.Sprint(n)] = n
	}
	texts := []string{""}
	for start := 0; start < len(texts); start++ {
		s := texts[start]
		want, isValid := valid[s]
		if n, ok := impl.ParseInt(s); ok != isValid || n != want {
			t.Errorf("ParseInt(%q) = %d, %v", s, n, ok)
		}
		if len(s) == 4 {
			continue
		}
		for _, c := range "0179-+ _x/:" {
			texts = append(texts, s+string(c))
		}
	}
}

func TestP01FormatInt(t *testing.T) {
	cases := []struct {
		n    int
		want string
	}{
		{0, "0"}, {1, "1"}, {-1, "-1"}, {-3, "-3"}, {9, "9"}, {10, "10"}, {-10, "-10"}, {120, "120"}, {1001, "1001"},
		{impl.MaxValue, "1000000000000"}, {impl.MaxValue + 1, "1000000000001"}, {-impl.MaxValue, "-1000000000000"},
		{math.MaxInt64, "9223372036854775807"}, {math.MinInt64, "-9223372036854775808"},
	}
	for _, c := range cases {
		if got := impl.FormatInt(c.n); got != c.want {
			t.Errorf("FormatInt(%d) = %q", c.n, got)
		}
	}
}

func TestP01MaxValue(t *testing.T) {
	if impl.MaxValue != 1000000000000 {
		t.Error(impl.MaxValue)
	}
}

func TestP01MinAndMax(t *testing.T) {
	cases := []struct{ a, b, least, greatest int }{
		{2, -1, -1, 2}, {-1, 2, -1, 2}, {3, 3, 3, 3}, {0, 0, 0, 0}, {0, 5, 0, 5}, {5, 0, 0, 5}, {-7, -2, -7, -2}, {-2, -7, -7, -2},
		{math.MinInt64, math.MaxInt64, math.MinInt64, math.MaxInt64}, {math.MaxInt64, math.MinInt64, math.MinInt64, math.MaxInt64},
		{math.MaxInt64, math.MaxInt64 - 1, math.MaxInt64 - 1, math.MaxInt64}, {math.MinInt64, math.MinInt64, math.MinInt64, math.MinInt64},
	}
	for _, c := range cases {
		if got := impl.Min(c.a, c.b); got != c.least {
			t.Errorf("Min(%d, %d) = %d", c.a, c.b, got)
		}
		if got := impl.Max(c.a, c.b); got != c.greatest {
			t.Errorf("Max(%d, %d) = %d", c.a, c.b, got)
		}
	}
}

func TestP01CeilDiv(t *testing.T) {
	const most = impl.MaxValue
	cases := []struct{ a, b, want int }{
		{7, 3, 3}, {6, 3, 2}, {0, 1, 0}, {0, 5, 0}, {1, 1, 1}, {1, 2, 1}, {5, 1, 5}, {2, 5, 1}, {5, 5, 1}, {6, 5, 2},
		{most, 1, most}, {most, 2, most / 2}, {most - 1, 2, most / 2}, {most, 3, 333333333334}, {most, most, 1}, {most, most - 1, 2},
		{1, most, 1}, {0, most, 0}, {most - 1, most, 1},
		{-1, 2, 0}, {-7, 3, 0}, {most + 1, 1, 0}, {most + 1, 2, 0}, {math.MaxInt64, 2, 0}, {math.MinInt64, 2, 0},
		{1, 0, 0}, {0, 0, 0}, {7, -3, 0}, {7, -1, 0}, {7, most + 1, 0}, {7, math.MaxInt64, 0}, {7, math.MinInt64, 0},
		{-1, -1, 0}, {-1, 0, 0}, {math.MinInt64, -1, 0}, {most + 1, most + 1, 0},
	}
	for _, c := range cases {
		if got := impl.CeilDiv(c.a, c.b); got != c.want {
			t.Errorf("CeilDiv(%d, %d) = %d", c.a, c.b, got)
		}
	}
}

func TestP01CeilDivIsTheLeastThatSuffices(t *testing.T) {
	for a := range 100 {
		for b := 1; b <= 100; b++ {
			want := 0
			for want*b < a {
				want++
			}
			if got := impl.CeilDiv(a, b); got != want {
				t.Errorf("CeilDiv(%d, %d) = %d", a, b, got)
			}
		}
	}
}

func TestP01Mod(t *testing.T) {
	const most = impl.MaxValue
	cases := []struct{ p, q, want int }{
		{-1, 7, 6}, {15, 7, 1}, {0, 7, 0}, {6, 7, 6}, {7, 7, 0}, {-6, 7, 1}, {-7, 7, 0}, {-8, 7, 6}, {-15, 7, 6}, {5, 1, 0}, {-5, 1, 0},
		{most, most, 0}, {most + 1, most, 1}, {most - 1, most, most - 1}, {-1, most, most - 1}, {-most, most, 0}, {-most - 1, most, most - 1},
		{math.MaxInt64, 10, 7}, {math.MinInt64, 10, 2}, {math.MinInt64, 1, 0}, {math.MinInt64, 2, 0},
		{math.MaxInt64, most, 36854775807}, {math.MinInt64, most, most - 36854775808},
		{3, 0, 0}, {0, 0, 0}, {-3, 0, 0}, {3, -1, 0}, {3, -7, 0}, {-3, -7, 0}, {math.MinInt64, -1, 0},
		{3, most + 1, 0}, {-3, most + 1, 0}, {3, math.MaxInt64, 0}, {3, math.MinInt64, 0},
	}
	for _, c := range cases {
		if got := impl.Mod(c.p, c.q); got != c.want {
			t.Errorf("Mod(%d, %d) = %d", c.p, c.q, got)
		}
	}
}

func TestP01ModCounts(t *testing.T) {
	for q := 1; q <= 20; q++ {
		want := 0
		for p := -100 * q; p <= 100*q; p++ {
			if got := impl.Mod(p, q); got != want {
				t.Errorf("Mod(%d, %d) = %d", p, q, got)
			}
			want++
			if want == q {
				want = 0
			}
		}
	}
}

func TestP01InRange(t *testing.T) {
	cases := []struct {
		n, low, high int
		want         bool
	}{
		{2, 2, 3, true}, {3, 2, 3, true}, {1, 2, 3, false}, {4, 2, 3, false}, {2, 2, 2, true}, {1, 2, 2, false}, {3, 2, 2, false},
		{-2, -3, -1, true}, {-3, -3, -1, true}, {-1, -3, -1, true}, {-4, -3, -1, false}, {0, -3, -1, false}, {0, -1, 1, true},
		{2, 3, 2, false}, {3, 3, 2, false}, {2, 3, 1, false},
		{math.MinInt64, math.MinInt64, math.MaxInt64, true}, {math.MaxInt64, math.MinInt64, math.MaxInt64, true},
		{0, math.MinInt64, math.MaxInt64, true}, {0, math.MaxInt64, math.MinInt64, false},
		{math.MaxInt64, math.MinInt64, math.MaxInt64 - 1, false}, {math.MinInt64, math.MinInt64 + 1, math.MaxInt64, false},
	}
	for _, c := range cases {
		if got := impl.InRange(c.n, c.low, c.high); got != c.want {
			t.Errorf("InRange(%d, %d, %d) = %v", c.n, c.low, c.high, got)
		}
	}
}
