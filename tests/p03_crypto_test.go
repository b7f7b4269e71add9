package tests

import (
	"math"
	"testing"

	"loop.example/g00591/impl"
)

func TestP03EqualInts(t *testing.T) {
	cases := []struct {
		a, b []int
		want bool
	}{
		{nil, nil, true}, {nil, []int{}, true}, {[]int{}, nil, true}, {[]int{0}, []int{0}, true}, {[]int{5, 300}, []int{5, 300}, true},
		{[]int{-1, math.MinInt64, math.MaxInt64}, []int{-1, math.MinInt64, math.MaxInt64}, true},
		{nil, []int{0}, false}, {[]int{0}, nil, false}, {[]int{0}, []int{0, 0}, false}, {[]int{5, 300}, []int{5}, false},
		{[]int{5, 300}, []int{300, 5}, false}, {[]int{5, 300}, []int{5, 301}, false}, {[]int{4, 300}, []int{5, 300}, false},
		{[]int{1}, []int{-1}, false}, {[]int{0}, []int{1 << 32}, false}, {[]int{math.MinInt64}, []int{math.MaxInt64}, false},
	}
	for _, c := range cases {
		if got := impl.EqualInts(c.a, c.b); got != c.want {
			t.Errorf("EqualInts(%v, %v) = %v", c.a, c.b, got)
		}
	}
}
