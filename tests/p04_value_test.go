package tests

import (
	"math"
	"math/rand"
	"slices"
	"testing"

	"loop.example/g00591/impl"
)

const p04Most = 999999

func p04Int(n int) impl.Value    { return impl.Value{Kind: 0, N: n} }
func p04Ref(n int) impl.Value    { return impl.Value{Kind: 1, N: n} }
func p04Broken(n int) impl.Value { return impl.Value{Kind: 2, N: n} }

func p04OtherKinds() []int {
	return []int{3, 4, 7, -1, -2, 256, 257, 258, 1 << 32, 1<<32 + 1, 1<<32 + 2, math.MaxInt64, math.MinInt64, math.MinInt64 + 1, math.MinInt64 + 2}
}

func p04Numbers() []int {
	return []int{
		0, 1, 2, 3, 17, 199, 200, 201, 255, 256, 499999, 500000, p04Most - 1, p04Most, p04Most + 1, p04Most + 2,
		1<<31 - 1, 1 << 31, 1 << 32, 1<<32 + 1, impl.MaxValue, impl.MaxValue + 1, math.MaxInt64 - 1, math.MaxInt64,
		-1, -2, -200, -p04Most, -p04Most - 1, -1 << 32, -impl.MaxValue, math.MinInt64 + 1, math.MinInt64,
	}
}

// p04Values returns every kind, valid or not, with every number of p04Numbers.
func p04Values() []impl.Value {
	values := []impl.Value{}
	for _, kind := range append([]int{0, 1, 2}, p04OtherKinds()...) {
		for _, n := range p04Numbers() {
			values = append(values, impl.Value{Kind: kind, N: n})
		}
	}
	return values
}

func p04EntityCounts() []int {
	return []int{
		0, 1, 2, 3, 199, 200, 201, 1000, p04Most, p04Most + 1, 1 << 32, math.MaxInt64 - 1, math.MaxInt64,
		-1, -2, -200, math.MinInt64 + 1, math.MinInt64,
	}
}

func p04IsProperNumber(v impl.Value) bool {
	return v.Kind == 0 && v.N >= 0 && v.N <= p04Most
}

func TestP04Constants(t *testing.T) {
	if impl.VaInt != 0 || impl.VaRef != 1 || impl.VaBroken != 2 || impl.MaxNumber != p04Most || impl.MaxEntities != 200 {
		t.Error(impl.VaInt, impl.VaRef, impl.VaBroken, impl.MaxNumber, impl.MaxEntities)
	}
}

func TestP04IsValueOfNumbers(t *testing.T) {
	// The number of entities does not count for numbers.
	for _, entities := range p04EntityCounts() {
		for _, n := range []int{0, 1, 17, 200, 201, p04Most - 1, p04Most} {
			if !impl.IsValue(p04Int(n), entities) {
				t.Errorf("with %d entities, the number %d is no value", entities, n)
			}
		}
		for _, n := range []int{-1, -2, -p04Most, p04Most + 1, p04Most + 2, 1 << 32, impl.MaxValue, math.MaxInt64, math.MinInt64} {
			if impl.IsValue(p04Int(n), entities) {
				t.Errorf("with %d entities, the number %d is a value", entities, n)
			}
		}
	}
}

func TestP04IsValueOfReferences(t *testing.T) {
	cases := []struct {
		n, entities int
		want        bool
	}{
		{0, 1, true}, {0, 2, true}, {1, 2, true}, {2, 3, true}, {199, 200, true}, {0, 200, true}, {0, math.MaxInt64, true},
		// at the number of entities, and beyond it
		{1, 1, false}, {2, 2, false}, {3, 3, false}, {2, 1, false}, {200, 200, false}, {201, 200, false}, {math.MaxInt64, 200, false},
		// below 0
		{-1, 1, false}, {-1, 200, false}, {-2, 3, false}, {math.MinInt64, 200, false}, {-1, math.MaxInt64, false}, {math.MinInt64, math.MaxInt64, false},
		// no entities, or fewer
		{0, 0, false}, {1, 0, false}, {-1, 0, false}, {0, -1, false}, {-1, -1, false}, {-2, -1, false}, {-1, -2, false}, {5, -5, false},
		// numbers of entities from which a difference would wrap around
		{0, math.MinInt64, false}, {1, math.MinInt64, false}, {-1, math.MinInt64, false}, {math.MaxInt64, math.MinInt64, false},
		{math.MaxInt64 - 1, math.MinInt64, false}, {math.MinInt64, math.MinInt64, false}, {math.MinInt64, math.MinInt64 + 1, false},
		{math.MaxInt64 - 1, math.MaxInt64, true}, {math.MaxInt64, math.MaxInt64, false},
		// the chapter sets no other limit: not MaxEntities, and not MaxNumber
		{200, 201, true}, {200, 1000, true}, {p04Most + 1, p04Most + 2, true},
	}
	for _, c := range cases {
		if got := impl.IsValue(p04Ref(c.n), c.entities); got != c.want {
			t.Errorf("with %d entities, IsValue of the reference %d is %v", c.entities, c.n, got)
		}
	}
}

func TestP04IsValueOfBroken(t *testing.T) {
	for _, entities := range p04EntityCounts() {
		if !impl.IsValue(p04Broken(0), entities) {
			t.Errorf("with %d entities, broken is no value", entities)
		}
		for _, n := range p04Numbers() {
			if n != 0 && impl.IsValue(p04Broken(n), entities) {
				t.Errorf("with %d entities, broken with N %d is a value", entities, n)
			}
		}
	}
}

func TestP04IsValueOfOtherKinds(t *testing.T) {
	for _, kind := range p04OtherKinds() {
		for _, n := range p04Numbers() {
			for _, entities := range p04EntityCounts() {
				if v := (impl.Value{Kind: kind, N: n}); impl.IsValue(v, entities) {
					t.Errorf("with %d entities, %v is a value", entities, v)
				}
			}
		}
	}
}

func TestP04IntValue(t *testing.T) {
	cases := []struct{ n, want int }{
		{0, 0}, {1, 1}, {17, 17}, {p04Most - 1, p04Most - 1}, {p04Most, p04Most},
		// beyond MaxNumber
		{p04Most + 1, 0}, {p04Most + 2, 1}, {1999999, p04Most}, {2000000, 0}, {2000017, 17}, {123456789, 456789},
		{impl.MaxValue, 0}, {impl.MaxValue + 1, 1}, {1<<32 + 1, 967297}, {math.MaxInt64, 775807}, {math.MaxInt64 - 1, 775806},
		// negative
		{-1, p04Most}, {-2, p04Most - 1}, {-17, 999983}, {-p04Most, 1}, {-p04Most - 1, 0}, {-p04Most - 2, p04Most}, {-2000000, 0}, {-2000001, p04Most},
		{-impl.MaxValue, 0}, {-impl.MaxValue - 1, p04Most}, {math.MinInt64, 224192}, {math.MinInt64 + 1, 224193},
	}
	for _, c := range cases {
		if got := impl.IntValue(c.n); got != p04Int(c.want) {
			t.Errorf("IntValue(%d) = %v, not the number %d", c.n, got, c.want)
		}
	}
}

func TestP04IntValueIsANumber(t *testing.T) {
	random := rand.New(rand.NewSource(4))
	numbers := p04Numbers()
	for range 2000 {
		numbers = append(numbers, int(random.Uint64()))
	}
	for _, n := range numbers {
		got := impl.IntValue(n)
		if !p04IsProperNumber(got) || (n%(p04Most+1)-got.N)%(p04Most+1) != 0 {
			t.Errorf("IntValue(%d) = %v", n, got)
		}
	}
}

func TestP04RefValueAndBrokenValue(t *testing.T) {
	// A reference is what is asked for; whether there is such an entity is for IsValue to say.
	for _, n := range p04Numbers() {
		if got := impl.RefValue(n); got != p04Ref(n) {
			t.Errorf("RefValue(%d) = %v", n, got)
		}
	}
	if got := impl.BrokenValue(); got != p04Broken(0) {
		t.Errorf("BrokenValue() = %v", got)
	}
}

func TestP04AddInts(t *testing.T) {
	cases := []struct{ a, b, want int }{
		{0, 0, 0}, {0, 5, 5}, {5, 0, 5}, {2, 3, 5}, {17, 25, 42}, {499999, 500000, p04Most}, {p04Most, 0, p04Most}, {0, p04Most, p04Most},
		// sums beyond MaxNumber
		{p04Most, 1, 0}, {1, p04Most, 0}, {p04Most, 2, 1}, {500000, 500000, 0}, {500000, 500001, 1}, {p04Most, p04Most, p04Most - 1},
	}
	for _, c := range cases {
		if got := impl.AddInts(p04Int(c.a), p04Int(c.b)); got != p04Int(c.want) {
			t.Errorf("the sum of %d and %d is %v, not the number %d", c.a, c.b, got, c.want)
		}
	}
}

func TestP04AddIntsOfWhatIsNoNumber(t *testing.T) {
	numbers := []impl.Value{p04Int(0), p04Int(1), p04Int(2), p04Int(p04Most)}
	others := []impl.Value{
		p04Ref(0), p04Ref(1), p04Ref(2), p04Ref(-1), p04Ref(p04Most), p04Ref(p04Most + 1),
		p04Broken(0), p04Broken(1), p04Broken(-1), p04Broken(p04Most),
		// numbers out of range
		p04Int(-1), p04Int(-2), p04Int(-p04Most), p04Int(p04Most + 1), p04Int(p04Most + 2), p04Int(impl.MaxValue), p04Int(math.MaxInt64), p04Int(math.MinInt64),
	}
	for _, kind := range p04OtherKinds() {
		others = append(others, impl.Value{Kind: kind}, impl.Value{Kind: kind, N: 2}, impl.Value{Kind: kind, N: -1})
	}
	for _, other := range others {
		for _, n := range numbers {
			if got := impl.AddInts(n, other); got != p04Broken(0) {
				t.Errorf("AddInts(%v, %v) = %v", n, other, got)
			}
			if got := impl.AddInts(other, n); got != p04Broken(0) {
				t.Errorf("AddInts(%v, %v) = %v", other, n, got)
			}
		}
		// Two wrongs do not make a number, even if their sum is in range.
		for _, second := range others {
			if got := impl.AddInts(other, second); got != p04Broken(0) {
				t.Errorf("AddInts(%v, %v) = %v", other, second, got)
			}
		}
	}
}

func TestP04AddIntsOfAllKinds(t *testing.T) {
	values := p04Values()
	for _, a := range values {
		for _, b := range values {
			want := p04Broken(0)
			if p04IsProperNumber(a) && p04IsProperNumber(b) {
				want = p04Int((a.N + b.N) % 1000000)
			}
			got := impl.AddInts(a, b)
			if got != want {
				t.Fatalf("AddInts(%v, %v) = %v, not %v", a, b, got, want)
			}
			if !impl.IsValue(got, 0) {
				t.Fatalf("AddInts(%v, %v) = %v is no value", a, b, got)
			}
		}
	}
}

func TestP04AddIntsIsIntValueOfTheSum(t *testing.T) {
	random := rand.New(rand.NewSource(5))
	for range 5000 {
		a, b := random.Intn(p04Most+1), random.Intn(p04Most+1)
		got := impl.AddInts(p04Int(a), p04Int(b))
		if got != impl.IntValue(a+b) || got != impl.AddInts(p04Int(b), p04Int(a)) {
			t.Errorf("the sum of %d and %d is %v", a, b, got)
		}
	}
}

func TestP04IsNumber(t *testing.T) {
	cases := []struct {
		v    impl.Value
		n    int
		want bool
	}{
		{p04Int(0), 0, true}, {p04Int(1), 1, true}, {p04Int(17), 17, true}, {p04Int(p04Most), p04Most, true}, {impl.Value{}, 0, true},
		{p04Int(0), 1, false}, {p04Int(1), 0, false}, {p04Int(17), 18, false}, {p04Int(1), -1, false}, {p04Int(p04Most), p04Most - 1, false},
		// n is not reduced to the range of numbers
		{p04Int(0), p04Most + 1, false}, {p04Int(p04Most), -1, false}, {p04Int(1), p04Most + 2, false}, {p04Int(0), 1 << 32, false},
		{p04Int(p04Most), 1999999, false}, {p04Int(0), math.MinInt64, false},
		// the other kinds are no numbers
		{p04Ref(0), 0, false}, {p04Ref(1), 1, false}, {p04Ref(17), 17, false}, {p04Ref(-1), -1, false}, {p04Ref(p04Most), p04Most, false},
		{p04Broken(0), 0, false}, {p04Broken(2), 2, false}, {p04Broken(-1), -1, false},
	}
	for _, kind := range p04OtherKinds() {
		for _, n := range []int{0, 1, 3, -1, kind} {
			cases = append(cases, struct {
				v    impl.Value
				n    int
				want bool
			}{impl.Value{Kind: kind, N: n}, n, false})
		}
	}
	for _, c := range cases {
		if got := impl.IsNumber(c.v, c.n); got != c.want {
			t.Errorf("IsNumber(%v, %d) = %v", c.v, c.n, got)
		}
	}
}

func TestP04IsNumberOfIntValue(t *testing.T) {
	for _, n := range p04Numbers() {
		want := n >= 0 && n <= p04Most
		if got := impl.IsNumber(impl.IntValue(n), n); got != want {
			t.Errorf("IsNumber(IntValue(%d), %d) = %v", n, n, got)
		}
	}
}

func TestP04AreValues(t *testing.T) {
	good := []impl.Value{p04Int(0), p04Ref(0), p04Broken(0), p04Ref(2), p04Int(p04Most)}
	cases := []struct {
		list     []impl.Value
		entities int
		want     bool
	}{
		{nil, 0, true}, {nil, 5, true}, {nil, -1, true}, {nil, math.MinInt64, true}, {[]impl.Value{}, 0, true}, {[]impl.Value{}, -1, true},
		{good, 3, true}, {good, 200, true}, {good, 2, false}, {good, 1, false}, {good, 0, false}, {good, -3, false}, {good, math.MinInt64, false},
		{good[:1], 0, true}, {good[:1], -1, true}, {good[:2], 1, true}, {good[:2], 0, false}, {good[:3], 1, true}, {good[2:3], math.MinInt64, true},
		{slices.Repeat([]impl.Value{p04Ref(199)}, 300), 200, true}, {slices.Repeat([]impl.Value{p04Ref(199)}, 300), 199, false},
	}
	for _, c := range cases {
		if got := impl.AreValues(c.list, c.entities); got != c.want {
			t.Errorf("AreValues(%v, %d) = %v", c.list, c.entities, got)
		}
	}
}

func TestP04AreValuesLooksAtAllElements(t *testing.T) {
	bad := []impl.Value{
		p04Int(-1), p04Int(p04Most + 1), p04Ref(-1), p04Ref(3), p04Ref(4), p04Broken(1), p04Broken(-1),
		{Kind: 3}, {Kind: -1}, {Kind: math.MaxInt64}, {Kind: math.MinInt64},
	}
	for length := 1; length <= 6; length++ {
		for place := range length {
			for _, v := range bad {
				list := slices.Repeat([]impl.Value{p04Ref(2)}, length)
				list[place] = v
				if impl.AreValues(list, 3) {
					t.Errorf("AreValues(%v, 3) is true", list)
				}
			}
		}
	}
}

func TestP04AreValuesIsIsValueOfOne(t *testing.T) {
	for _, v := range p04Values() {
		for _, entities := range p04EntityCounts() {
			if got := impl.AreValues([]impl.Value{v}, entities); got != impl.IsValue(v, entities) {
				t.Errorf("AreValues([%v], %d) = %v", v, entities, got)
			}
		}
	}
}

func TestP04EqualValues(t *testing.T) {
	cases := []struct {
		a, b []impl.Value
		want bool
	}{
		{nil, nil, true}, {nil, []impl.Value{}, true}, {[]impl.Value{}, nil, true}, {[]impl.Value{}, []impl.Value{}, true},
		{[]impl.Value{p04Int(1), p04Ref(0)}, []impl.Value{p04Int(1), p04Ref(0)}, true}, {[]impl.Value{p04Broken(0)}, []impl.Value{p04Broken(0)}, true},
		// different lengths
		{nil, []impl.Value{{}}, false}, {[]impl.Value{{}}, nil, false}, {[]impl.Value{{}}, []impl.Value{{}, {}}, false},
		{[]impl.Value{p04Int(1), p04Ref(0)}, []impl.Value{p04Int(1)}, false}, {[]impl.Value{p04Int(1)}, []impl.Value{p04Int(1), p04Ref(0)}, false},
		// another kind, another N, another order
		{[]impl.Value{p04Int(0)}, []impl.Value{p04Ref(0)}, false}, {[]impl.Value{p04Int(0)}, []impl.Value{p04Broken(0)}, false},
		{[]impl.Value{p04Ref(0)}, []impl.Value{p04Broken(0)}, false}, {[]impl.Value{p04Int(1)}, []impl.Value{p04Int(2)}, false},
		{[]impl.Value{p04Ref(1)}, []impl.Value{p04Ref(2)}, false}, {[]impl.Value{p04Int(1), p04Int(2)}, []impl.Value{p04Int(2), p04Int(1)}, false},
		{[]impl.Value{p04Int(1), p04Int(2), p04Int(3)}, []impl.Value{p04Int(1), p04Int(2), p04Int(4)}, false},
		{[]impl.Value{p04Int(1), p04Int(2), p04Int(3)}, []impl.Value{p04Int(0), p04Int(2), p04Int(3)}, false},
		// what IsValue rejects is compared by its fields too
		{[]impl.Value{p04Broken(1)}, []impl.Value{p04Broken(1)}, true}, {[]impl.Value{p04Broken(1)}, []impl.Value{p04Broken(0)}, false},
		{[]impl.Value{{Kind: 3, N: 4}}, []impl.Value{{Kind: 3, N: 4}}, true}, {[]impl.Value{{Kind: 3, N: 4}}, []impl.Value{{Kind: 4, N: 4}}, false},
		{[]impl.Value{{Kind: -1, N: 4}}, []impl.Value{{Kind: -1, N: 5}}, false}, {[]impl.Value{p04Int(0)}, []impl.Value{p04Int(p04Most + 1)}, false},
		{[]impl.Value{p04Ref(-1)}, []impl.Value{p04Ref(-1)}, true}, {[]impl.Value{p04Int(0)}, []impl.Value{p04Int(1 << 32)}, false},
	}
	for _, c := range cases {
		if got := impl.EqualValues(c.a, c.b); got != c.want {
			t.Errorf("EqualValues(%v, %v) = %v", c.a, c.b, got)
		}
	}
}

func TestP04EqualValuesOfOneMemory(t *testing.T) {
	memory := []impl.Value{p04Int(1), p04Ref(0), p04Int(1), p04Ref(0)}
	// The lengths count, not what lies in the spare capacity.
	if !impl.EqualValues(memory[:2], memory[2:]) || !impl.EqualValues(memory, memory) || impl.EqualValues(memory[:2], memory[:3]) {
		t.Error(memory)
	}
}

func TestP04ListsAreLeftAsTheyAre(t *testing.T) {
	memory := []impl.Value{p04Int(1), p04Int(-1), p04Ref(300), p04Broken(5), {Kind: 9, N: 9}, p04Int(77), p04Int(77)}
	want := slices.Clone(memory)
	list := memory[:5]
	impl.AreValues(list, 1)
	impl.AreValues(list[:1], 1)
	impl.EqualValues(list, list)
	impl.EqualValues(list[:3], list)
	if !slices.Equal(memory, want) {
		t.Errorf("the lists have become %v", memory)
	}
}
