package tests

import (
	"fmt"
	"math"
	"reflect"
	"slices"
	"testing"

	"loop.example/g00591/impl"
)

// The numbers of the chapter, written out, so that a wrong constant does not go unseen.
const (
	p09Object  = 1
	p09Promise = 2
	p09Proxy   = 3
	p09Open    = 1
	p09Kept    = 2
	p09Away    = 3
	p09Held    = 4
	p09Most    = 999999
	p09Queue   = 40
)

func p09States() []int { return []int{p09Open, p09Kept, p09Away, p09Held} }

// p09OtherNumbers are neither kinds nor states; many become one if their upper bits are lost.
func p09OtherNumbers() []int {
	return []int{
		0, 5, 6, 7, 100, 256, 257, 258, 259, 260, 1<<16 + 1, 1<<16 + 2, 1 << 32, 1<<32 + 1, 1<<32 + 2, 1<<32 + 3, 1<<32 + 4, math.MaxInt64,
		-1, -2, -3, -4, -254, -1 << 32, math.MinInt64, math.MinInt64 + 1, math.MinInt64 + 2, math.MinInt64 + 3, math.MinInt64 + 4,
	}
}

func p09Args(n int) []impl.Value { return []impl.Value{p04Int(n), p04Ref(1)} }

// p09Messages returns so many messages, no two of which are the same.
func p09Messages(count int) []impl.Sent {
	list := []impl.Sent{}
	for i := range count {
		list = append(list, impl.Sent{Target: i, Name: "get", Args: p09Args(i), Result: i + 1, Tag: impl.Tag{Vat: 1, Entity: i, Seq: 1}})
	}
	return list
}

func p09Askers(count int) []impl.Asker {
	list := []impl.Asker{}
	for i := range count {
		list = append(list, impl.Asker{Peer: 2, Question: i + 1})
	}
	return list
}

// p09Samples returns an entity of each kind and state, valid with 3 entities, in which every field is set that may be.
func p09Samples() map[string]impl.Entity {
	return map[string]impl.Entity{
		"object": {Kind: p09Object, Script: 2, Slots: []impl.Value{p04Int(5), p04Ref(2), p04Broken(0)}, Sent: 6},
		"proxy":  {Kind: p09Proxy, Peer: 2, Pos: 3, Count: 4, Sent: 6},
		"open":   {Kind: p09Promise, State: p09Open, Queue: p09Messages(2), Askers: p09Askers(2), Sent: 6},
		"kept":   {Kind: p09Promise, State: p09Kept, Value: p04Ref(2), Sent: 6},
		"away":   {Kind: p09Promise, State: p09Away, Askers: p09Askers(2), Peer: 2, Pos: 3, Count: 4, Sent: 6},
		"held":   {Kind: p09Promise, State: p09Held, Value: p04Int(7), Queue: p09Messages(2), Askers: p09Askers(2), Peer: 2, Pos: 3, Count: 4, Sent: 6},
	}
}

func p09Names() []string { return []string{"object", "proxy", "open", "kept", "away", "held"} }

// p09IsEntity says of each field in turn what the chapter says of it.
func p09IsEntity(e impl.Entity, entities int) bool {
	isObject, isProxy, isPromise := e.Kind == p09Object, e.Kind == p09Proxy, e.Kind == p09Promise
	in := func(n, low, high int) bool { return n >= low && n <= high }
	isValue := func(v impl.Value) bool {
		return v.Kind == 0 && in(v.N, 0, p09Most) || v.Kind == 1 && v.N >= 0 && v.N < entities || v == p04Broken(0)
	}
	hasState := func(states ...int) bool { return isPromise && slices.Contains(states, e.State) }
	rules := []struct {
		has, ifHas, ifNot bool
	}{
		{isObject || isProxy || isPromise, in(e.Sent, 0, p09Most), false},
		{isObject, in(e.Script, 0, 5), e.Script == 0},
		{isObject, len(e.Slots) <= 3 && !slices.ContainsFunc(e.Slots, func(v impl.Value) bool { return !isValue(v) }), len(e.Slots) == 0},
		{isPromise, in(e.State, 1, 4), e.State == 0},
		{hasState(p09Kept, p09Held), isValue(e.Value), e.Value == impl.Value{}},
		{hasState(p09Open, p09Held), len(e.Queue) <= p09Queue, len(e.Queue) == 0},
		{hasState(p09Open, p09Away, p09Held), true, len(e.Askers) == 0},
		{isProxy || hasState(p09Away, p09Held), in(e.Peer, 1, 4), e.Peer == 0},
		{isProxy || hasState(p09Away, p09Held), in(e.Pos, 1, p09Most), e.Pos == 0},
		{isProxy || hasState(p09Away, p09Held), in(e.Count, 0, p09Most) && (e.Count > 0 || !isProxy), e.Count == 0},
	}
	for _, r := range rules {
		if r.has && !r.ifHas || !r.has && !r.ifNot {
			return false
		}
	}
	return true
}

// p09Change is a change of one field, with the words in which a test tells of it.
type p09Change struct {
	text string
	make func(e *impl.Entity)
}

// p09Field returns the place of the field of a number with this name.
func p09Field(e *impl.Entity, name string) *int {
	return reflect.ValueOf(e).Elem().FieldByName(name).Addr().Interface().(*int)
}

func p09NumberFields() []string {
	return []string{"Kind", "Script", "State", "Peer", "Pos", "Count", "Sent"}
}

// p09Changes sets every field in turn to many values: around all limits, of each kind of Value, and of several lengths.
func p09Changes() []p09Change {
	list := []p09Change{}
	for _, name := range p09NumberFields() {
		for _, n := range append(p09OtherNumbers(), 1, 2, 3, 4, 40, 41, 199, 200, 201, p09Most-1, p09Most, p09Most+1, p09Most+2) {
			list = append(list, p09Change{fmt.Sprint(name, " ", n), func(e *impl.Entity) { *p09Field(e, name) = n }})
		}
	}
	values := []impl.Value{
		p04Int(0), p04Int(1), p04Int(p09Most), p04Int(p09Most + 1), p04Int(-1), p04Ref(0), p04Ref(1), p04Ref(2), p04Ref(3), p04Ref(-1),
		p04Broken(0), p04Broken(1), p04Broken(-1), {Kind: 3}, {Kind: -1}, {Kind: 1 << 32},
	}
	for _, v := range values {
		list = append(list, p09Change{fmt.Sprint("Value ", v), func(e *impl.Entity) { e.Value = v }})
		for length := 1; length <= 4; length++ {
			for place := range length {
				slots := slices.Repeat([]impl.Value{p04Int(5)}, length)
				slots[place] = v
				list = append(list, p09Change{fmt.Sprint("Slots ", slots), func(e *impl.Entity) { e.Slots = slots }})
			}
		}
	}
	for _, length := range []int{0, 1, 2, 3, 4, 5, 39, 40, 41, 42, 256, 296} {
		list = append(list,
			p09Change{fmt.Sprint("Slots of ", length), func(e *impl.Entity) { e.Slots = make([]impl.Value, length) }},
			p09Change{fmt.Sprint("Queue of ", length), func(e *impl.Entity) { e.Queue = p09Messages(length) }},
			p09Change{fmt.Sprint("Queue of empty ", length), func(e *impl.Entity) { e.Queue = make([]impl.Sent, length) }},
			p09Change{fmt.Sprint("Askers of ", length), func(e *impl.Entity) { e.Askers = p09Askers(length) }},
			p09Change{fmt.Sprint("Askers of empty ", length), func(e *impl.Entity) { e.Askers = make([]impl.Asker, length) }},
		)
	}
	return list
}

// p09Expect holds IsEntity against the answer wanted.
func p09Expect(t *testing.T, e impl.Entity, entities int, want bool) {
	t.Helper()
	if got := impl.IsEntity(e, entities); got != want {
		t.Errorf("with %d entities, IsEntity of %+v is %v", entities, e, got)
	}
}

// p09ExpectChanged makes one change in the sample with this name.
func p09ExpectChanged(t *testing.T, name string, want bool, change func(e *impl.Entity)) {
	t.Helper()
	e := p09Samples()[name]
	change(&e)
	p09Expect(t, e, 3, want)
}

func TestP09Constants(t *testing.T) {
	if impl.EnObject != p09Object || impl.EnPromise != p09Promise || impl.EnProxy != p09Proxy {
		t.Error(impl.EnObject, impl.EnPromise, impl.EnProxy)
	}
	if impl.PrOpen != p09Open || impl.PrKept != p09Kept || impl.PrAway != p09Away || impl.PrHeld != p09Held || impl.MaxQueue != p09Queue {
		t.Error(impl.PrOpen, impl.PrKept, impl.PrAway, impl.PrHeld, impl.MaxQueue)
	}
}

func TestP09NewObject(t *testing.T) {
	lists := [][]impl.Value{
		nil, {}, {p04Int(0)}, {p04Int(7), p04Ref(1)}, {p04Ref(0), p04Broken(0), p04Int(p09Most)}, {{}, {}, {}},
		// too many, and not valid
		{p04Int(1), p04Int(2), p04Int(3), p04Int(4)}, slices.Repeat([]impl.Value{p04Ref(5)}, 300),
		{p04Int(-1)}, {p04Int(p09Most + 1)}, {p04Ref(-1)}, {p04Ref(math.MaxInt64)}, {p04Broken(1)}, {{Kind: 3, N: 4}}, {p04Int(1), {Kind: -1, N: -1}, p04Int(2)},
	}
	for _, script := range []int{0, 1, 2, 5, 6, 7, 256, 1 << 32, math.MaxInt64, -1, -2, math.MinInt64} {
		for _, slots := range lists {
			// An object is what is asked for; whether it is a valid one is for IsEntity to say.
			want := impl.Entity{Kind: p09Object, Script: script, Slots: slots}
			if got := impl.NewObject(script, slots); !p09Same(got, want) {
				t.Errorf("NewObject(%d, %v) is %+v", script, slots, got)
			}
		}
	}
}

func TestP09NewObjectSharesNoMemory(t *testing.T) {
	for _, length := range []int{0, 1, 2, 3, 4, 100} {
		memory := slices.Repeat([]impl.Value{p04Int(5)}, length+2)
		first, second := impl.NewObject(1, memory[:length]), impl.NewObject(1, memory[:length])
		room := first.Slots[:cap(first.Slots)]
		for i := range room {
			room[i] = p04Ref(9)
		}
		if slices.ContainsFunc(memory, func(v impl.Value) bool { return v != p04Int(5) }) || slices.Contains(second.Slots, p04Ref(9)) {
			t.Errorf("with an object of %d slots, the argument has become %v, and another object %v", length, memory, second.Slots)
		}
		for i := range memory {
			memory[i] = p04Ref(8)
		}
		if len(second.Slots) != length || slices.Contains(second.Slots, p04Ref(8)) {
			t.Errorf("with the argument, the slots have become %v", second.Slots)
		}
		second.Slots = append(second.Slots, p04Int(1))
		if slices.Contains(memory, p04Int(1)) {
			t.Errorf("behind the %d slots, the argument has become %v", length, memory)
		}
	}
}

func TestP09NewPromise(t *testing.T) {
	if got := impl.NewPromise(); !p09Same(got, impl.Entity{Kind: p09Promise, State: p09Open}) {
		t.Errorf("NewPromise is %+v", got)
	}
	first, second := impl.NewPromise(), impl.NewPromise()
	first.Queue, first.Askers = append(first.Queue, p09Messages(1)...), append(first.Askers, p09Askers(1)...)
	if !p09Same(second, impl.Entity{Kind: p09Promise, State: p09Open}) || !p09Same(impl.NewPromise(), second) {
		t.Errorf("with the first promise, the second one has become %+v", second)
	}
}

func TestP09NewProxy(t *testing.T) {
	numbers := []int{0, 1, 2, 3, 4, 5, 17, p09Most, p09Most + 1, 1 << 32, 1<<32 + 1, math.MaxInt64, -1, -2, math.MinInt64}
	for _, peer := range numbers {
		for _, pos := range numbers {
			if got := impl.NewProxy(peer, pos); !p09Same(got, impl.Entity{Kind: p09Proxy, Peer: peer, Pos: pos, Count: 1}) {
				t.Errorf("NewProxy(%d, %d) is %+v", peer, pos, got)
			}
		}
	}
}

// The promise: what is made from valid parts is a valid entity, and nothing else is.
func TestP09NewEntitiesAreValid(t *testing.T) {
	for _, entities := range p04EntityCounts() {
		p09Expect(t, impl.NewPromise(), entities, true)
		for script := -2; script <= 8; script++ {
			for length := range 6 {
				slots := slices.Repeat([]impl.Value{p04Int(p09Most)}, length)
				p09Expect(t, impl.NewObject(script, slots), entities, script >= 0 && script <= 5 && length <= 3)
			}
			for _, v := range p04Values() {
				isValid := script >= 0 && script <= 5 && impl.IsValue(v, entities)
				p09Expect(t, impl.NewObject(script, []impl.Value{v}), entities, isValid)
				p09Expect(t, impl.NewObject(script, []impl.Value{p04Int(1), v, p04Broken(0)}), entities, isValid)
			}
		}
		for _, peer := range []int{0, 1, 2, 3, 4, 5, -1, 1<<32 + 1, math.MaxInt64, math.MinInt64, math.MinInt64 + 1} {
			for _, pos := range p04Numbers() {
				p09Expect(t, impl.NewProxy(peer, pos), entities, peer >= 1 && peer <= 4 && pos >= 1 && pos <= p09Most)
			}
		}
	}
}

func TestP09IsPending(t *testing.T) {
	for _, state := range append(p09OtherNumbers(), p09States()...) {
		for _, kind := range append(p09OtherNumbers(), p09Object, p09Promise, p09Proxy, p09Held) {
			want := kind == p09Promise && (state == p09Open || state == p09Away || state == p09Held)
			// The other fields do not count, valid or not.
			for _, e := range []impl.Entity{{}, p09Samples()["held"], {Script: 9, Slots: p09Args(-1), Value: p04Ref(-1), Queue: p09Messages(50), Peer: -1, Pos: -1, Count: -1, Sent: -1}} {
				e.Kind, e.State = kind, state
				if got := impl.IsPending(e); got != want {
					t.Errorf("IsPending of kind %d, state %d is %v", kind, state, got)
				}
			}
		}
	}
	if impl.IsPending(impl.Entity{}) || !impl.IsPending(impl.NewPromise()) || impl.IsPending(impl.NewObject(0, nil)) || impl.IsPending(impl.NewProxy(1, 1)) {
		t.Error("new entities")
	}
	for name, e := range p09Samples() {
		if got := impl.IsPending(e); got != (name == "open" || name == "away" || name == "held") {
			t.Errorf("IsPending of %q is %v", name, got)
		}
	}
}

func TestP09IsEntityOfSamples(t *testing.T) {
	for _, name := range p09Names() {
		p09ExpectChanged(t, name, true, func(e *impl.Entity) {})
	}
	p09Expect(t, impl.Entity{}, 3, false)
}

// Each number of each kind and state at its least and greatest valid value, and beyond; where it has none, both are 0.
// The State of promises has tests of its own, since a promise with another State may be valid as well.
func TestP09IsEntityAtEveryLimit(t *testing.T) {
	limits := map[string]map[string][2]int{
		"object": {"Script": {0, 5}, "State": {0, 0}, "Peer": {0, 0}, "Pos": {0, 0}, "Count": {0, 0}, "Sent": {0, p09Most}},
		"proxy":  {"Script": {0, 0}, "State": {0, 0}, "Peer": {1, 4}, "Pos": {1, p09Most}, "Count": {1, p09Most}, "Sent": {0, p09Most}},
		"open":   {"Script": {0, 0}, "Peer": {0, 0}, "Pos": {0, 0}, "Count": {0, 0}, "Sent": {0, p09Most}},
		"kept":   {"Script": {0, 0}, "Peer": {0, 0}, "Pos": {0, 0}, "Count": {0, 0}, "Sent": {0, p09Most}},
		"away":   {"Script": {0, 0}, "Peer": {1, 4}, "Pos": {1, p09Most}, "Count": {0, p09Most}, "Sent": {0, p09Most}},
		"held":   {"Script": {0, 0}, "Peer": {1, 4}, "Pos": {1, p09Most}, "Count": {0, p09Most}, "Sent": {0, p09Most}},
	}
	for _, name := range p09Names() {
		for field, limit := range limits[name] {
			low, high := limit[0], limit[1]
			set := func(n int) func(e *impl.Entity) {
				return func(e *impl.Entity) { *p09Field(e, field) = n }
			}
			for _, n := range []int{low, high, (low + high) / 2} {
				p09ExpectChanged(t, name, true, set(n))
			}
			for _, n := range []int{low - 1, high + 1, low - 2, high + 2, low - p09Most - 1, high + p09Most + 1, low + 1<<32, high - 1<<32, math.MinInt64, math.MaxInt64, math.MinInt64 + low, math.MinInt64 + high} {
				if n < low || n > high {
					p09ExpectChanged(t, name, false, set(n))
				}
			}
		}
	}
}

func TestP09IsEntityWithFieldsOfOtherKinds(t *testing.T) {
	values := []impl.Value{p04Int(1), p04Int(p09Most), p04Ref(0), p04Ref(1), p04Broken(0), p04Int(-1), {Kind: 3}}
	for _, name := range []string{"object", "proxy", "open", "away"} {
		for _, v := range values {
			p09ExpectChanged(t, name, false, func(e *impl.Entity) { e.Value = v })
		}
		p09ExpectChanged(t, name, true, func(e *impl.Entity) { e.Value = p04Int(0) })
	}
	for _, name := range []string{"proxy", "open", "kept", "away", "held"} {
		for _, slots := range [][]impl.Value{{p04Int(0)}, {p04Int(7)}, {p04Ref(1)}, {{}, {}, {}}, {{}, {}, {}, {}}} {
			p09ExpectChanged(t, name, false, func(e *impl.Entity) { e.Slots = slots })
		}
		p09ExpectChanged(t, name, true, func(e *impl.Entity) { e.Slots = []impl.Value{} })
	}
	for _, name := range []string{"object", "proxy", "kept", "away"} {
		for _, queue := range [][]impl.Sent{{{}}, p09Messages(1), p09Messages(40), p09Messages(41)} {
			p09ExpectChanged(t, name, false, func(e *impl.Entity) { e.Queue = queue })
		}
		p09ExpectChanged(t, name, true, func(e *impl.Entity) { e.Queue = []impl.Sent{} })
	}
	for _, name := range []string{"object", "proxy", "kept"} {
		for _, askers := range [][]impl.Asker{{{}}, p09Askers(1), p09Askers(2)} {
			p09ExpectChanged(t, name, false, func(e *impl.Entity) { e.Askers = askers })
		}
		p09ExpectChanged(t, name, true, func(e *impl.Entity) { e.Askers = []impl.Asker{} })
	}
}

func TestP09IsEntityOfOtherKindsAndStates(t *testing.T) {
	for _, n := range append(p09OtherNumbers(), 4) {
		for _, name := range p09Names() {
			p09ExpectChanged(t, name, false, func(e *impl.Entity) { e.Kind = n })
		}
		p09Expect(t, impl.Entity{Kind: n}, 3, false)
		p09Expect(t, impl.Entity{Kind: n, State: p09Open}, 3, false)
	}
	for _, n := range p09OtherNumbers() {
		for _, name := range []string{"open", "kept", "away", "held"} {
			p09ExpectChanged(t, name, false, func(e *impl.Entity) { e.State = n })
		}
		p09Expect(t, impl.Entity{Kind: p09Promise, State: n}, 3, false)
		p09Expect(t, impl.Entity{Kind: p09Promise, State: n, Peer: 2, Pos: 3}, 3, false)
	}
}

func TestP09IsEntityWithEveryState(t *testing.T) {
	// Each promise is valid in the states whose fields it has, and in no other.
	cases := []struct {
		e      impl.Entity
		states []int
	}{
		{impl.Entity{}, []int{p09Open, p09Kept}},
		{impl.Entity{Value: p04Int(1)}, []int{p09Kept}}, {impl.Entity{Value: p04Broken(0)}, []int{p09Kept}},
		{impl.Entity{Queue: p09Messages(1)}, []int{p09Open}}, {impl.Entity{Askers: p09Askers(1)}, []int{p09Open}},
		{impl.Entity{Value: p04Int(1), Queue: p09Messages(1)}, nil}, {impl.Entity{Value: p04Int(1), Askers: p09Askers(1)}, nil},
		{impl.Entity{Peer: 1, Pos: 1}, []int{p09Away, p09Held}}, {impl.Entity{Peer: 1, Pos: 1, Count: 1, Askers: p09Askers(1)}, []int{p09Away, p09Held}},
		{impl.Entity{Peer: 1, Pos: 1, Value: p04Int(1)}, []int{p09Held}}, {impl.Entity{Peer: 1, Pos: 1, Queue: p09Messages(1)}, []int{p09Held}},
		{impl.Entity{Peer: 1}, nil}, {impl.Entity{Pos: 1}, nil}, {impl.Entity{Count: 1}, nil}, {impl.Entity{Peer: 1, Count: 1}, nil}, {impl.Entity{Pos: 1, Count: 1}, nil},
		{impl.Entity{Script: 1}, nil}, {impl.Entity{Slots: make([]impl.Value, 1)}, nil}, {impl.Entity{Script: 1, Peer: 1, Pos: 1}, nil},
	}
	for _, c := range cases {
		for _, state := range append(p09OtherNumbers(), p09States()...) {
			e := c.e
			e.Kind, e.State = p09Promise, state
			p09Expect(t, e, 3, slices.Contains(c.states, state))
		}
	}
}

func TestP09IsEntityWithQueuesAndAskers(t *testing.T) {
	for _, length := range []int{0, 1, 2, 39, 40, 41, 42, 80, 256, 257, 296, 1000} {
		for _, name := range []string{"open", "held"} {
			p09ExpectChanged(t, name, length <= 40, func(e *impl.Entity) { e.Queue = p09Messages(length) })
			// What stands behind the queue does not count.
			p09ExpectChanged(t, name, true, func(e *impl.Entity) { e.Queue = p09Messages(1000)[:min(length, 40)] })
		}
		for _, name := range []string{"kept", "away"} {
			p09ExpectChanged(t, name, length == 0, func(e *impl.Entity) { e.Queue = p09Messages(length) })
		}
		// There is no limit of askers.
		for _, name := range []string{"open", "away", "held"} {
			p09ExpectChanged(t, name, true, func(e *impl.Entity) { e.Askers = p09Askers(length) })
		}
		p09ExpectChanged(t, "kept", length == 0, func(e *impl.Entity) { e.Askers = p09Askers(length) })
	}
	// The chapter counts messages and askers, and says nothing of what is in them.
	odd := []impl.Sent{{}, {Target: -1, Name: "Get", Args: slices.Repeat([]impl.Value{p04Ref(-1)}, 5), Result: math.MaxInt64, Tag: impl.Tag{Vat: -1, Entity: -1, Seq: -1}}}
	for _, name := range []string{"open", "held"} {
		p09ExpectChanged(t, name, true, func(e *impl.Entity) { e.Queue = odd })
		p09ExpectChanged(t, name, true, func(e *impl.Entity) { e.Askers = []impl.Asker{{}, {Peer: -1, Question: -1}} })
	}
}

func TestP09IsEntityWithEveryValue(t *testing.T) {
	for _, v := range p04Values() {
		for _, entities := range p04EntityCounts() {
			want := impl.IsValue(v, entities)
			p09Expect(t, impl.Entity{Kind: p09Promise, State: p09Kept, Value: v}, entities, want)
			p09Expect(t, impl.Entity{Kind: p09Promise, State: p09Held, Value: v, Peer: 1, Pos: 1}, entities, want)
			p09Expect(t, impl.Entity{Kind: p09Object, Slots: []impl.Value{v}}, entities, want)
			// Without a Value there is the number 0.
			p09Expect(t, impl.Entity{Kind: p09Promise, State: p09Open, Value: v}, entities, v == impl.Value{})
			p09Expect(t, impl.Entity{Kind: p09Promise, State: p09Away, Value: v, Peer: 1, Pos: 1}, entities, v == impl.Value{})
		}
	}
}

func TestP09IsEntityWithSlots(t *testing.T) {
	bad := []impl.Value{p04Int(-1), p04Int(p09Most + 1), p04Ref(-1), p04Ref(3), p04Ref(4), p04Broken(1), p04Broken(-1), {Kind: 3}, {Kind: -1}, {Kind: math.MinInt64}}
	for length := range 8 {
		slots := slices.Repeat([]impl.Value{p04Ref(2)}, length)
		p09Expect(t, impl.Entity{Kind: p09Object, Slots: slots}, 3, length <= 3)
		p09Expect(t, impl.Entity{Kind: p09Object, Slots: slots}, 2, length == 0)
		p09Expect(t, impl.Entity{Kind: p09Object, Slots: make([]impl.Value, length)}, 0, length <= 3)
		for place := range length {
			for _, v := range bad {
				wrong := slices.Clone(slots)
				wrong[place] = v
				p09Expect(t, impl.Entity{Kind: p09Object, Slots: wrong}, 3, false)
				// What stands behind the slots does not count.
				p09Expect(t, impl.Entity{Kind: p09Object, Slots: wrong[:place]}, 3, place <= 3)
			}
		}
	}
}

func TestP09IsEntityWithReferences(t *testing.T) {
	for _, entities := range []int{1, 2, 3, 4, 5, 6, 7, 41, 199, 200, 201, p09Most + 1, math.MaxInt64 - 1, math.MaxInt64, 0, -1, -2, -200, math.MinInt64, math.MinInt64 + 1} {
		for _, n := range []int{0, 1, entities - 1, entities, entities - 2, -1, -2, math.MaxInt64, math.MinInt64} {
			want := n >= 0 && n < entities
			p09Expect(t, impl.Entity{Kind: p09Promise, State: p09Kept, Value: p04Ref(n)}, entities, want)
			p09Expect(t, impl.Entity{Kind: p09Promise, State: p09Held, Value: p04Ref(n), Peer: 4, Pos: 1}, entities, want)
			p09Expect(t, impl.Entity{Kind: p09Object, Slots: []impl.Value{p04Int(0), p04Broken(0), p04Ref(n)}}, entities, want)
		}
		// The number of entities limits references alone.
		p09Expect(t, impl.Entity{Kind: p09Object, Script: 5, Slots: []impl.Value{p04Int(p09Most)}, Sent: p09Most}, entities, true)
		p09Expect(t, impl.Entity{Kind: p09Proxy, Peer: 4, Pos: p09Most, Count: p09Most, Sent: p09Most}, entities, true)
		for _, name := range []string{"open", "away"} {
			p09Expect(t, p09Samples()[name], entities, true)
		}
	}
}

func TestP09IsEntityAfterOneAndTwoChanges(t *testing.T) {
	changes := p09Changes()
	valid := 0
	for _, name := range p09Names() {
		for i, first := range changes {
			for _, second := range changes[i:] {
				e := p09Samples()[name]
				first.make(&e)
				second.make(&e)
				want := p09IsEntity(e, 3)
				if want {
					valid++
				}
				if got := impl.IsEntity(e, 3); got != want {
					t.Fatalf("the %s with %s and %s: IsEntity is %v", name, first.text, second.text, got)
				}
			}
		}
	}
	// Had most changes nothing valid left, the test would say little.
	if valid < 10000 {
		t.Errorf("only %d entities were valid", valid)
	}
}

func TestP09SlotOf(t *testing.T) {
	memory := []impl.Value{p04Int(7), p04Ref(1), p04Broken(0), p04Int(9), p04Int(-1), {Kind: 3, N: 4}}
	for length := range len(memory) + 1 {
		// Of any kind and state: the chapter asks for the slot alone.
		for _, name := range p09Names() {
			e := p09Samples()[name]
			e.Slots = memory[:length]
			for i := -3; i <= 10; i++ {
				want := p04Int(0)
				if i >= 0 && i < length {
					want = memory[i]
				}
				if got := impl.SlotOf(e, i); got != want {
					t.Errorf("of the %s with %v, SlotOf %d is %v", name, e.Slots, i, got)
				}
			}
			for _, i := range []int{math.MaxInt64, math.MaxInt64 - 1, math.MinInt64, math.MinInt64 + 1, 1 << 32, 1<<32 + 1, -1 << 32, 256, 1<<16 + 1, p09Most} {
				if got := impl.SlotOf(e, i); got != p04Int(0) {
					t.Errorf("of the %s with %v, SlotOf %d is %v", name, e.Slots, i, got)
				}
			}
		}
	}
}

func TestP09SlotOfEntitiesWithoutSlots(t *testing.T) {
	samples := p09Samples()
	entities := []impl.Entity{
		{}, impl.NewPromise(), impl.NewProxy(2, 3), impl.NewObject(1, nil), impl.NewObject(1, []impl.Value{}), samples["kept"], samples["held"], samples["proxy"],
		// what is no slot
		{Kind: p09Promise, State: p09Kept, Value: p04Int(7)}, {Kind: p09Object, Script: 5, Sent: 6},
	}
	for _, e := range entities {
		for _, i := range []int{0, 1, 2, 3, -1, -2, math.MaxInt64, math.MinInt64} {
			if got := impl.SlotOf(e, i); got != p04Int(0) {
				t.Errorf("of %+v, SlotOf %d is %v", e, i, got)
			}
		}
	}
}

func TestP09SlotOfNewObjects(t *testing.T) {
	for _, v := range p04Values() {
		o := impl.NewObject(0, []impl.Value{p04Int(1), v, p04Int(3)})
		if impl.SlotOf(o, 0) != p04Int(1) || impl.SlotOf(o, 1) != v || impl.SlotOf(o, 2) != p04Int(3) {
			t.Errorf("the slots of %+v", o)
		}
	}
}

// p09Same compares all fields by reflection, with nil and empty slices taken for one, and without the program.
func p09Same(a, b impl.Entity) bool {
	return reflect.DeepEqual(p09WithoutEmpty(reflect.ValueOf(a)).Interface(), p09WithoutEmpty(reflect.ValueOf(b)).Interface())
}

// p09WithoutEmpty returns a deep copy in which empty slices are nil.
func p09WithoutEmpty(v reflect.Value) reflect.Value {
	kept := reflect.New(v.Type()).Elem()
	switch v.Kind() {
	case reflect.Struct:
		for i := range v.NumField() {
			kept.Field(i).Set(p09WithoutEmpty(v.Field(i)))
		}
	case reflect.Slice:
		for i := range v.Len() {
			kept = reflect.Append(kept, p09WithoutEmpty(v.Index(i)))
		}
	default:
		kept.Set(v)
	}
	return kept
}

func p09Clone(e impl.Entity) impl.Entity {
	return p09WithoutEmpty(reflect.ValueOf(e)).Interface().(impl.Entity)
}

// p09Full has every field set, so that each of them can be changed.
func p09Full() impl.Entity {
	return impl.Entity{
		Kind: 1, Script: 2, Slots: []impl.Value{p04Int(1), p04Ref(2), p04Int(3)}, State: 3, Value: p04Ref(4), Queue: p09FullMessages(),
		Askers: []impl.Asker{{Peer: 1, Question: 2}, {Peer: 3, Question: 4}, {Peer: 5, Question: 6}}, Peer: 5, Pos: 6, Count: 7, Sent: 8,
	}
}

func p09FullMessages() []impl.Sent {
	list := []impl.Sent{}
	for i, name := range []string{"get", "set", "put"} {
		list = append(list, impl.Sent{
			Target: 10*i + 1, Name: name, Args: []impl.Value{p04Int(10*i + 2), p04Ref(10*i + 3)}, Result: 10*i + 4,
			Tag: impl.Tag{Vat: 10*i + 5, Entity: 10*i + 6, Seq: 10*i + 7},
		})
	}
	return list
}

// p09Leaves returns the places of all numbers, booleans and strings in v, however deep, and of all slices.
func p09Leaves(v reflect.Value) []reflect.Value {
	list := []reflect.Value{}
	switch v.Kind() {
	case reflect.Struct:
		for i := range v.NumField() {
			list = append(list, p09Leaves(v.Field(i))...)
		}
	case reflect.Slice:
		list = append(list, v)
		for i := range v.Len() {
			list = append(list, p09Leaves(v.Index(i))...)
		}
	default:
		list = append(list, v)
	}
	return list
}

// p09Variants changes what stands at one place, in several ways, and calls visit with each.
func p09Variants(place reflect.Value, visit func()) {
	old := reflect.ValueOf(place.Interface())
	put := func(v reflect.Value) {
		place.Set(v)
		visit()
		place.Set(old)
	}
	switch place.Kind() {
	case reflect.Int:
		for _, n := range []int{0, -1, old.Interface().(int) + 1, old.Interface().(int) - 1, old.Interface().(int) + 256, old.Interface().(int) + 1<<32, math.MaxInt64, math.MinInt64} {
			if n != old.Interface().(int) {
				put(reflect.ValueOf(n))
			}
		}
	case reflect.Bool:
		put(reflect.ValueOf(!old.Bool()))
	case reflect.String:
		for _, s := range []string{"", "g", old.String() + "s", "Get", old.String()[1:]} {
			put(reflect.ValueOf(s))
		}
	case reflect.Slice:
		zero := reflect.Zero(place.Type().Elem())
		put(reflect.Zero(place.Type()))
		put(reflect.MakeSlice(place.Type(), 0, 5))
		put(old.Slice(0, old.Len()-1))
		put(old.Slice(1, old.Len()))
		put(reflect.Append(old.Slice3(0, old.Len(), old.Len()), zero))
		put(reflect.Append(old.Slice3(0, old.Len(), old.Len()), old.Index(old.Len()-1)))
		put(reflect.MakeSlice(place.Type(), old.Len(), old.Len()))
		reversed := reflect.MakeSlice(place.Type(), 0, old.Len())
		for i := range old.Len() {
			reversed = reflect.Append(reversed, old.Index(old.Len()-1-i))
		}
		put(reversed)
	}
}

func TestP09EqualEntitiesThatAreAlike(t *testing.T) {
	list := []impl.Entity{{}, p09Full(), impl.NewPromise(), impl.NewProxy(2, 3), impl.NewObject(2, p09Args(4))}
	for _, name := range p09Names() {
		list = append(list, p09Samples()[name])
	}
	for i, a := range list {
		for j, b := range list {
			// Copies, so that equal memory is not what makes them equal.
			if got := impl.EqualEntities(a, p09Clone(b)); got != (i == j) {
				t.Errorf("EqualEntities of %+v and %+v is %v", a, b, got)
			}
		}
		if !impl.EqualEntities(a, a) {
			t.Errorf("%+v is not equal to itself", a)
		}
	}
}

func TestP09EqualEntitiesThatDifferInOnePlace(t *testing.T) {
	full, changed := p09Full(), p09Full()
	places := p09Leaves(reflect.ValueOf(&changed).Elem())
	// 7 numbers, 8 in Slots and Value, 4 slices, 3 messages of 9 numbers, a name and a slice, and 6 numbers of askers.
	if len(places) != 7+8+3+3*11+6 {
		t.Fatalf("%d places", len(places))
	}
	for i, place := range places {
		p09Variants(place, func() {
			if impl.EqualEntities(full, changed) || impl.EqualEntities(changed, full) {
				t.Errorf("at place %d, %+v is equal to %+v", i, changed, full)
			}
			if !impl.EqualEntities(changed, p09Clone(changed)) {
				t.Errorf("at place %d, %+v is not equal to its copy", i, changed)
			}
		})
	}
	if !impl.EqualEntities(full, changed) {
		t.Errorf("%+v and %+v are not equal", full, changed)
	}
}

func TestP09EqualEntitiesThatDifferInTwoPlaces(t *testing.T) {
	// Two fields that are exchanged, or whose difference is made up for by that of another one.
	edits := []func(e *impl.Entity){
		func(e *impl.Entity) { e.Peer, e.Pos = e.Pos, e.Peer },
		func(e *impl.Entity) { e.Pos, e.Count = e.Count, e.Pos },
		func(e *impl.Entity) { e.Count, e.Sent = e.Sent, e.Count },
		func(e *impl.Entity) { e.Kind, e.State = e.State, e.Kind },
		func(e *impl.Entity) { e.Kind, e.Script = e.Script, e.Kind },
		func(e *impl.Entity) { e.Count, e.Sent = e.Count+1, e.Sent-1 },
		func(e *impl.Entity) { e.Value.Kind, e.Value.N = e.Value.N, e.Value.Kind },
		func(e *impl.Entity) { e.Slots[0], e.Value = e.Value, e.Slots[0] },
		func(e *impl.Entity) { e.Queue[0].Target, e.Queue[0].Result = e.Queue[0].Result, e.Queue[0].Target },
		func(e *impl.Entity) {
			e.Queue[0].Tag.Vat, e.Queue[0].Tag.Entity = e.Queue[0].Tag.Entity, e.Queue[0].Tag.Vat
		},
		func(e *impl.Entity) {
			e.Queue[0].Tag.Entity, e.Queue[0].Tag.Seq = e.Queue[0].Tag.Seq, e.Queue[0].Tag.Entity
		},
		func(e *impl.Entity) { e.Queue[0].Args, e.Queue[1].Args = e.Queue[1].Args, e.Queue[0].Args },
		func(e *impl.Entity) { e.Queue[0].Tag, e.Queue[1].Tag = e.Queue[1].Tag, e.Queue[0].Tag },
		func(e *impl.Entity) {
			e.Askers[0].Peer, e.Askers[0].Question = e.Askers[0].Question, e.Askers[0].Peer
		},
	}
	for i, edit := range edits {
		full, changed := p09Full(), p09Full()
		edit(&changed)
		if impl.EqualEntities(full, changed) || impl.EqualEntities(changed, full) {
			t.Errorf("after edit %d, %+v is equal", i, changed)
		}
	}
}

func TestP09EqualEntitiesWithNilAndEmptySlices(t *testing.T) {
	withArgs := func(args []impl.Value) impl.Entity {
		return impl.Entity{Kind: p09Promise, State: p09Open, Queue: []impl.Sent{{Name: "get", Args: args}}}
	}
	pairs := [][2]impl.Entity{
		{{}, {Slots: []impl.Value{}}}, {{}, {Queue: []impl.Sent{}}}, {{}, {Askers: []impl.Asker{}}}, {{}, {Slots: p09Args(1)[:0], Queue: p09Messages(1)[:0], Askers: p09Askers(1)[:0]}},
		{{Slots: []impl.Value{}}, {Queue: []impl.Sent{}}}, {withArgs(nil), withArgs([]impl.Value{})}, {withArgs(nil), withArgs(p09Args(1)[:0])}, {withArgs(p09Args(1)), withArgs(append(p09Args(1), p04Int(5))[:2])},
	}
	for _, p := range pairs {
		if !impl.EqualEntities(p[0], p[1]) || !impl.EqualEntities(p[1], p[0]) {
			t.Errorf("%+v and %+v are not equal", p[0], p[1])
		}
	}
	// A list of one element that is zero is no empty list.
	for _, e := range []impl.Entity{{Slots: make([]impl.Value, 1)}, {Queue: make([]impl.Sent, 1)}, {Askers: make([]impl.Asker, 1)}} {
		if impl.EqualEntities(e, impl.Entity{}) || impl.EqualEntities(impl.Entity{}, e) {
			t.Errorf("%+v is equal to the zero entity", e)
		}
	}
}

func TestP09EqualSents(t *testing.T) {
	full, changed := p09FullMessages(), p09FullMessages()
	if !impl.EqualSents(full, changed) || !impl.EqualSents(full, full) {
		t.Error("messages that are alike are not equal")
	}
	for i, place := range p09Leaves(reflect.ValueOf(&changed).Elem()) {
		p09Variants(place, func() {
			if impl.EqualSents(full, changed) || impl.EqualSents(changed, full) {
				t.Errorf("at place %d, %+v is equal to %+v", i, changed, full)
			}
		})
	}
	if !impl.EqualSents(full, changed) {
		t.Errorf("%+v and %+v are not equal", full, changed)
	}
	// Nothing counts but the fields, whether a message is valid or not.
	odd := []impl.Sent{{Target: -1, Name: "Get", Args: p04Values(), Result: math.MinInt64, Tag: impl.Tag{Vat: -1, Seq: 1 << 32}}}
	if !impl.EqualSents(odd, []impl.Sent{{Target: -1, Name: "Get", Args: p04Values(), Result: math.MinInt64, Tag: impl.Tag{Vat: -1, Seq: 1 << 32}}}) {
		t.Error("messages that are not valid")
	}
}

func TestP09EqualSentsOfDifferentLength(t *testing.T) {
	lists := [][]impl.Sent{nil, {{}}, {{}, {}}}
	for length := 1; length <= 50; length += 7 {
		lists = append(lists, p09Messages(length))
	}
	for i, a := range lists {
		for j, b := range lists {
			if got := impl.EqualSents(a, b); got != (i == j) {
				t.Errorf("EqualSents of lists of %d and %d messages is %v", len(a), len(b), got)
			}
		}
	}
	empty := [][]impl.Sent{nil, {}, p09Messages(3)[:0]}
	for _, a := range empty {
		for _, b := range empty {
			if !impl.EqualSents(a, b) {
				t.Error("empty lists are not equal")
			}
		}
		if impl.EqualSents(a, make([]impl.Sent, 1)) || impl.EqualSents(make([]impl.Sent, 1), a) {
			t.Error("a list of one empty message is equal to nothing")
		}
	}
	// The lengths count, not what lies in the spare capacity.
	memory := append(p09Messages(2), p09Messages(2)...)
	if !impl.EqualSents(memory[:2], memory[2:]) || impl.EqualSents(memory[:2], memory[:3]) || impl.EqualSents(memory[:3], memory[:2]) {
		t.Error("parts of one memory")
	}
}

func TestP09NothingIsChanged(t *testing.T) {
	list := append([]impl.Entity{}, p09Full(), impl.NewPromise())
	for _, name := range p09Names() {
		list = append(list, p09Samples()[name])
	}
	for _, e := range list {
		// Lists with room behind them, where an append could leave something.
		e.Slots, e.Queue, e.Askers = append(e.Slots, p04Int(77)), append(e.Queue, p09Messages(1)...), append(e.Askers, p09Askers(1)...)
		kept := p09Clone(e)
		part := e
		part.Slots, part.Queue, part.Askers = e.Slots[:len(e.Slots)-1], e.Queue[:len(e.Queue)-1], e.Askers[:len(e.Askers)-1]
		for _, x := range []impl.Entity{e, part} {
			impl.IsEntity(x, 3)
			impl.IsPending(x)
			impl.SlotOf(x, 0)
			impl.NewObject(1, x.Slots)
			impl.EqualEntities(x, e)
			impl.EqualSents(x.Queue, e.Queue)
		}
		if !p09Same(e, kept) {
			t.Errorf("%+v has become %+v", kept, e)
		}
	}
}
