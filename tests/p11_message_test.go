package tests

import (
	"bytes"
	"encoding/binary"
	"fmt"
	"math"
	"math/rand"
	"reflect"
	"slices"
	"strings"
	"testing"

	"loop.example/g00591/impl"
)

// The numbers of the chapter, written out, so that a wrong constant does not go unseen.
const (
	p11Int     = 0
	p11Mine    = 1
	p11Yours   = 2
	p11Broken  = 3
	p11Call    = 1
	p11Return  = 2
	p11Echo    = 3
	p11Echoed  = 4
	p11Finish  = 5
	p11Release = 6
	p11Most    = 999999
)

// p11Head is how many numbers an encoding has ahead of the number of arguments.
const p11Head = 10

func p11Wire(kind, n int) impl.Wire { return impl.Wire{Kind: kind, N: n} }

func p11Kinds() []int {
	return []int{p11Call, p11Return, p11Echo, p11Echoed, p11Finish, p11Release}
}

// p11OtherKinds are no kinds of messages; many become one if their upper bits or their sign are lost.
func p11OtherKinds() []int {
	return []int{
		0, 7, 8, 9, 100, 256, 257, 258, 262, 1<<16 + 1, 1 << 32, 1<<32 + 1, 1<<32 + 2, 1<<32 + 5, 1<<32 + 6, math.MaxInt64,
		-1, -2, -3, -4, -5, -6, -255, -250, -1 << 32, math.MinInt64, math.MinInt64 + 1, math.MinInt64 + 2, math.MinInt64 + 6,
	}
}

// p11Numbers are numbers around 0, around the greatest one of all fields, and around the limits of several types.
func p11Numbers() []int {
	return []int{
		0, 1, 2, 3, 4, 5, 127, 128, 255, 256, 257, 16383, 16384, 500000, p11Most - 1, p11Most, p11Most + 1, p11Most + 2,
		1 << 20, 1<<31 - 1, 1 << 31, 1 << 32, 1<<32 + 1, impl.MaxValue, impl.MaxValue + 1, math.MaxInt64 - 1, math.MaxInt64,
		-1, -2, -3, -128, -p11Most, -p11Most - 1, -1 << 32, -1<<32 + 1, math.MinInt64 + 2, math.MinInt64 + 1, math.MinInt64,
	}
}

// p11Wires returns every kind, valid or not, with every number of p11Numbers.
func p11Wires() []impl.Wire {
	wires := []impl.Wire{}
	for _, kind := range append([]int{p11Int, p11Mine, p11Yours, p11Broken}, 4, 5, 6, 256, 257, 259, 1<<32, 1<<32+1, math.MaxInt64, -1, -2, -3, math.MinInt64, math.MinInt64+1, math.MinInt64+3) {
		for _, n := range p11Numbers() {
			wires = append(wires, p11Wire(kind, n))
		}
	}
	return wires
}

func p11In(n, low, high int) bool { return n >= low && n <= high }

func p11IsWire(w impl.Wire) bool {
	limits := map[int][2]int{p11Int: {0, p11Most}, p11Mine: {1, p11Most}, p11Yours: {1, p11Most}, p11Broken: {0, 0}}
	limit, isKind := limits[w.Kind]
	return isKind && p11In(w.N, limit[0], limit[1])
}

func p11IsName(s string) bool {
	return len(s) >= 1 && len(s) <= 6 && strings.Trim(s, "abcdefghijklmnopqrstuvwxyz") == ""
}

// p11IsMessage says of each field in turn what the chapter says of it.
func p11IsMessage(m impl.Message) bool {
	is := func(kinds ...int) bool { return slices.Contains(kinds, m.Kind) }
	rules := []struct {
		has, ifHas, ifNot bool
	}{
		{is(p11Kinds()...), true, false},
		{is(p11Release) || is(p11Call) && m.Answer == 0, p11In(m.Pos, 1, p11Most), m.Pos == 0},
		{is(p11Call) && m.Pos == 0, p11In(m.Answer, 1, p11Most), m.Answer == 0},
		{!is(p11Release), p11In(m.Question, 1, p11Most), m.Question == 0},
		{is(p11Call), p11IsName(m.Name), m.Name == ""},
		{is(p11Call), len(m.Args) <= 2 && !slices.ContainsFunc(m.Args, func(w impl.Wire) bool { return !p11IsWire(w) }), len(m.Args) == 0},
		{is(p11Return), p11IsWire(m.Value), m.Value == impl.Wire{}},
		{is(p11Release), p11In(m.Count, 1, p11Most), m.Count == 0},
		{is(p11Call), p11In(m.Tag.Vat, 1, p11Most), m.Tag.Vat == 0},
		{is(p11Call), p11In(m.Tag.Entity, 0, p11Most), m.Tag.Entity == 0},
		{is(p11Call), p11In(m.Tag.Seq, 1, p11Most), m.Tag.Seq == 0},
	}
	for _, r := range rules {
		if r.has && !r.ifHas || !r.has && !r.ifNot {
			return false
		}
	}
	return true
}

// p11Parts writes a message, valid or not, as the chapter says: each number is a part, among them the length of the name, and so is the name.
func p11Parts(m impl.Message) [][]byte {
	numbers := []int{m.Kind, m.Pos, m.Answer, m.Question, m.Count, m.Tag.Vat, m.Tag.Entity, m.Tag.Seq, m.Value.Kind, m.Value.N, len(m.Args)}
	for _, w := range m.Args {
		numbers = append(numbers, w.Kind, w.N)
	}
	parts := [][]byte{}
	for _, n := range append(numbers, len(m.Name)) {
		parts = append(parts, p11Varint(n))
	}
	return append(parts, []byte(m.Name))
}

func p11Varint(n int) []byte { return binary.AppendUvarint(nil, uint64(n)) }

func p11Encode(m impl.Message) []byte { return slices.Concat(p11Parts(m)...) }

// p11Decode reads leniently and accepts only what is valid and has this encoding.
func p11Decode(b []byte) (impl.Message, bool) {
	rest := b
	next := func() int {
		n, size := binary.Uvarint(rest)
		rest = rest[max(size, 0):]
		return int(n)
	}
	m := impl.Message{Kind: next(), Pos: next(), Answer: next(), Question: next(), Count: next()}
	m.Tag = impl.Tag{Vat: next(), Entity: next(), Seq: next()}
	m.Value = p11Wire(next(), next())
	for range min(max(next(), 0), 9) {
		m.Args = append(m.Args, p11Wire(next(), next()))
	}
	m.Name = string(rest[:min(max(next(), 0), len(rest))])
	if !p11IsMessage(m) || !bytes.Equal(p11Encode(m), b) {
		return impl.Message{}, false
	}
	return m, true
}

// p11Same compares without the program, with nil and empty slices taken for one.
func p11Same(a, b impl.Message) bool {
	return slices.Equal(a.Args, b.Args) && reflect.DeepEqual(p11WithoutArgs(a), p11WithoutArgs(b))
}

func p11WithoutArgs(m impl.Message) impl.Message {
	m.Args = nil
	return m
}

func p11Clone(m impl.Message) impl.Message {
	m.Args = slices.Clone(m.Args)
	return m
}

// p11Samples returns valid messages of each kind and form, in which no two numbers are alike.
func p11Samples() map[string]impl.Message {
	tag, wires := impl.Tag{Vat: 3, Entity: 14, Seq: 15}, []impl.Wire{p11Wire(p11Mine, 92), p11Wire(p11Yours, 65)}
	return map[string]impl.Message{
		"call of an export":   {Kind: p11Call, Pos: 7, Question: 9, Name: "get", Args: wires, Tag: tag},
		"call of an answer":   {Kind: p11Call, Answer: 8, Question: 9, Name: "put", Args: wires, Tag: tag},
		"call with one":       {Kind: p11Call, Pos: 7, Question: 9, Name: "longer", Args: wires[:1], Tag: tag},
		"call without":        {Kind: p11Call, Answer: 8, Question: 9, Name: "x", Tag: tag},
		"return of a number":  {Kind: p11Return, Question: 9, Value: p11Wire(p11Int, 35)},
		"return of mine":      {Kind: p11Return, Question: 9, Value: p11Wire(p11Mine, 35)},
		"return of yours":     {Kind: p11Return, Question: 9, Value: p11Wire(p11Yours, 35)},
		"return of a failure": {Kind: p11Return, Question: 9, Value: p11Wire(p11Broken, 0)},
		"echo":                {Kind: p11Echo, Question: 9},
		"echoed":              {Kind: p11Echoed, Question: 9},
		"finish":              {Kind: p11Finish, Question: 9},
		"release":             {Kind: p11Release, Pos: 7, Count: 8},
	}
}

func p11Calls() []string {
	return []string{"call of an export", "call of an answer", "call with one", "call without"}
}

func p11Returns() []string {
	return []string{"return of a number", "return of mine", "return of yours", "return of a failure"}
}

func p11Names() []string {
	return slices.Concat(p11Calls(), p11Returns(), []string{"echo", "echoed", "finish", "release"})
}

func p11NotNames() []string {
	return append(p05NotNames(), "A", "aZ", "a`", "a{", "aaaaaaa", strings.Repeat("a", 300), "\x00", "\x00\x00\x00\x00\x00\x00", "ä", "éé", "ａ")
}

// p11Place returns the place of the number with this name outside of Args.
func p11Place(m *impl.Message, name string) *int {
	return map[string]*int{
		"Kind": &m.Kind, "Pos": &m.Pos, "Answer": &m.Answer, "Question": &m.Question, "Count": &m.Count, "Vat": &m.Tag.Vat,
		"Entity": &m.Tag.Entity, "Seq": &m.Tag.Seq, "Value.Kind": &m.Value.Kind, "Value.N": &m.Value.N,
	}[name]
}

// p11Fields has the numbers in the order of the encoding.
func p11Fields() []string {
	return []string{"Kind", "Pos", "Answer", "Question", "Count", "Vat", "Entity", "Seq", "Value.Kind", "Value.N"}
}

// p11Check holds IsMessage, EncodeMessage and DecodeMessage against whether a message is to be valid.
func p11Check(t *testing.T, m impl.Message, isValid bool) {
	t.Helper()
	if got := impl.IsMessage(m); got != isValid {
		t.Errorf("IsMessage of %+v is %v", m, got)
	}
	encoding := p11Encode(m)
	got := impl.EncodeMessage(m)
	if isValid && !bytes.Equal(got, encoding) || !isValid && len(got) != 0 {
		t.Errorf("EncodeMessage of %+v is %v", m, got)
	}
	p11ExpectDecoded(t, encoding, m, isValid)
}

// p11ExpectDecoded holds DecodeMessage against a message, or the zero one and false.
func p11ExpectDecoded(t *testing.T, b []byte, want impl.Message, isValid bool) {
	t.Helper()
	if !isValid {
		want = impl.Message{}
	}
	if got, ok := impl.DecodeMessage(b); ok != isValid || !p11Same(got, want) {
		t.Errorf("DecodeMessage of %v is %+v, %v, not %+v, %v", b, got, ok, want, isValid)
	}
}

// p11ExpectNone says that there is no message with this encoding, which p11Decode has to agree with.
func p11ExpectNone(t *testing.T, reason string, b []byte) {
	t.Helper()
	if m, ok := p11Decode(b); ok {
		t.Fatalf("%s: %v is the encoding of %+v", reason, b, m)
	}
	if got, ok := impl.DecodeMessage(b); ok || !p11Same(got, impl.Message{}) {
		t.Errorf("%s: DecodeMessage of %v is %+v, %v", reason, b, got, ok)
	}
}

// p11CheckChanged makes one change in the sample with this name.
func p11CheckChanged(t *testing.T, name string, isValid bool, change func(m *impl.Message)) {
	t.Helper()
	m := p11Clone(p11Samples()[name])
	change(&m)
	p11Check(t, m, isValid)
}

func TestP11Constants(t *testing.T) {
	if impl.WiInt != p11Int || impl.WiMine != p11Mine || impl.WiYours != p11Yours || impl.WiBroken != p11Broken {
		t.Error(impl.WiInt, impl.WiMine, impl.WiYours, impl.WiBroken)
	}
	if impl.MsCall != p11Call || impl.MsReturn != p11Return || impl.MsEcho != p11Echo || impl.MsEchoed != p11Echoed || impl.MsFinish != p11Finish || impl.MsRelease != p11Release {
		t.Error(impl.MsCall, impl.MsReturn, impl.MsEcho, impl.MsEchoed, impl.MsFinish, impl.MsRelease)
	}
}

func TestP11IsWireAtEveryLimit(t *testing.T) {
	limits := map[int][2]int{p11Int: {0, p11Most}, p11Mine: {1, p11Most}, p11Yours: {1, p11Most}, p11Broken: {0, 0}}
	for kind, limit := range limits {
		low, high := limit[0], limit[1]
		for _, n := range []int{low, high, low + (high-low)/2, min(low+1, high), max(high-1, low)} {
			if !impl.IsWire(p11Wire(kind, n)) {
				t.Errorf("IsWire of kind %d, %d is false", kind, n)
			}
		}
		for _, n := range []int{low - 1, low - 2, high + 1, high + 2, -high - 1, high + 1<<32, low - 1<<32, math.MaxInt64, math.MinInt64, math.MinInt64 + low, math.MinInt64 + high} {
			if impl.IsWire(p11Wire(kind, n)) && (n < low || n > high) {
				t.Errorf("IsWire of kind %d, %d is true", kind, n)
			}
		}
	}
}

func TestP11IsWireOfEveryKind(t *testing.T) {
	valid := 0
	for _, w := range p11Wires() {
		if got := impl.IsWire(w); got != p11IsWire(w) {
			t.Errorf("IsWire of %+v is %v", w, got)
		}
		if impl.IsWire(w) {
			valid++
		}
	}
	// 16 of the numbers are from 0 to the greatest one; exports have all but 0, what is broken has only 0.
	if valid != 16+15+15+1 {
		t.Errorf("%d wires are valid", valid)
	}
	for kind := -300; kind <= 300; kind++ {
		for n := -2; n <= 2; n++ {
			if got := impl.IsWire(p11Wire(kind, n)); got != p11IsWire(p11Wire(kind, n)) {
				t.Errorf("IsWire of kind %d, %d is %v", kind, n, got)
			}
		}
	}
	if !impl.IsWire(impl.Wire{}) {
		t.Error("the zero wire is no number 0")
	}
}

func TestP11IsMessageOfSamples(t *testing.T) {
	for _, name := range p11Names() {
		p11CheckChanged(t, name, true, func(m *impl.Message) {})
	}
	p11Check(t, impl.Message{}, false)
	p11Check(t, impl.Message{Args: []impl.Wire{}}, false)
}

// Each number of each kind at its least and greatest valid value, and beyond; where it has none, both are 0.
func TestP11IsMessageAtEveryLimit(t *testing.T) {
	some, none := [2]int{1, p11Most}, [2]int{0, 0}
	tagged := map[string][2]int{"Vat": some, "Entity": {0, p11Most}, "Seq": some}
	limits := map[string]map[string][2]int{
		"call of an export":   {"Pos": some, "Question": some},
		"call of an answer":   {"Answer": some, "Question": some},
		"call with one":       {"Pos": some, "Question": some},
		"call without":        {"Answer": some, "Question": some},
		"return of a number":  {"Question": some, "Value.Kind": {0, 2}, "Value.N": {0, p11Most}},
		"return of mine":      {"Question": some, "Value.Kind": {0, 2}, "Value.N": some},
		"return of yours":     {"Question": some, "Value.Kind": {0, 2}, "Value.N": some},
		"return of a failure": {"Question": some, "Value.N": none},
		"echo":                {"Question": some},
		"echoed":              {"Question": some},
		"finish":              {"Question": some},
		"release":             {"Pos": some, "Count": some},
	}
	for _, name := range p11Names() {
		for _, field := range p11Fields()[1:] {
			limit := limits[name][field]
			if slices.Contains(p11Calls(), name) && tagged[field] != none {
				limit = tagged[field]
			}
			if name == "return of a failure" && field == "Value.Kind" {
				// 0 is a valid kind here as well, which has a test of its own.
				continue
			}
			low, high := limit[0], limit[1]
			for _, n := range append(p11Numbers(), low, high, low-1, high+1, low-2, high+2, (low+high)/2, low+1<<32, high-1<<32, math.MinInt64+low, math.MinInt64+high) {
				p11CheckChanged(t, name, n >= low && n <= high, func(m *impl.Message) { *p11Place(m, field) = n })
			}
		}
	}
}

func TestP11IsMessageOfOtherKinds(t *testing.T) {
	for _, kind := range p11OtherKinds() {
		for _, name := range p11Names() {
			p11CheckChanged(t, name, false, func(m *impl.Message) { m.Kind = kind })
		}
		p11Check(t, impl.Message{Kind: kind}, false)
		p11Check(t, impl.Message{Kind: kind, Question: 1}, false)
		p11Check(t, impl.Message{Kind: kind, Pos: 1, Count: 1}, false)
	}
	for kind := -300; kind <= 300; kind++ {
		p11Check(t, impl.Message{Kind: kind, Question: 1}, kind >= p11Return && kind <= p11Finish)
		p11Check(t, impl.Message{Kind: kind, Pos: 1, Count: 1}, kind == p11Release)
		p11Check(t, impl.Message{Kind: kind}, false)
	}
}

// Each message is valid with the kinds whose fields it has, and with no other.
func TestP11IsMessageWithEveryKind(t *testing.T) {
	tag := impl.Tag{Vat: 1, Seq: 1}
	questions := []int{p11Return, p11Echo, p11Echoed, p11Finish}
	cases := []struct {
		m     impl.Message
		kinds []int
	}{
		{impl.Message{}, nil}, {impl.Message{Question: 1}, questions}, {impl.Message{Pos: 1, Count: 1}, []int{p11Release}},
		{impl.Message{Question: 1, Value: p11Wire(p11Int, 1)}, []int{p11Return}}, {impl.Message{Question: 1, Value: p11Wire(p11Broken, 0)}, []int{p11Return}},
		{impl.Message{Question: 1, Value: p11Wire(p11Mine, 0)}, nil}, {impl.Message{Question: 1, Value: p11Wire(p11Broken, 1)}, nil}, {impl.Message{Value: p11Wire(p11Mine, 1)}, nil},
		{impl.Message{Pos: 1, Question: 1, Name: "a", Tag: tag}, []int{p11Call}}, {impl.Message{Answer: 1, Question: 1, Name: "a", Tag: tag}, []int{p11Call}},
		{impl.Message{Pos: 1, Answer: 1, Question: 1, Name: "a", Tag: tag}, nil}, {impl.Message{Question: 1, Name: "a", Tag: tag}, nil},
		{impl.Message{Pos: 1, Name: "a", Tag: tag}, nil}, {impl.Message{Pos: 1, Question: 1, Tag: tag}, nil}, {impl.Message{Pos: 1, Question: 1, Name: "a"}, nil},
		{impl.Message{Pos: 1, Question: 1, Name: "a", Tag: impl.Tag{Vat: 1}}, nil}, {impl.Message{Pos: 1, Question: 1, Name: "a", Tag: impl.Tag{Seq: 1}}, nil},
		{impl.Message{Pos: 1, Question: 1, Count: 1, Name: "a", Tag: tag}, nil}, {impl.Message{Pos: 1, Question: 1}, nil}, {impl.Message{Pos: 1}, nil}, {impl.Message{Count: 1}, nil},
		{impl.Message{Pos: 1, Question: 1, Count: 1}, nil}, {impl.Message{Answer: 1, Count: 1}, nil}, {impl.Message{Question: 1, Tag: tag}, nil}, {impl.Message{Pos: 1, Count: 1, Tag: tag}, nil},
	}
	for _, c := range cases {
		for _, kind := range append(p11OtherKinds(), p11Kinds()...) {
			m := c.m
			m.Kind = kind
			p11Check(t, m, slices.Contains(c.kinds, kind))
		}
	}
}

func TestP11CallsHaveOneTarget(t *testing.T) {
	for _, name := range p11Calls() {
		for _, pos := range p11Numbers() {
			for _, answer := range p11Numbers() {
				isValid := pos == 0 && answer >= 1 && answer <= p11Most || answer == 0 && pos >= 1 && pos <= p11Most
				p11CheckChanged(t, name, isValid, func(m *impl.Message) { m.Pos, m.Answer = pos, answer })
			}
		}
	}
	// Two that are alike, or make up for one another.
	for n := 1; n <= 300; n++ {
		for _, other := range []int{n, -n, n + 1, n - 1<<32} {
			p11CheckChanged(t, "call without", false, func(m *impl.Message) { m.Pos, m.Answer = n, other })
			p11CheckChanged(t, "call without", false, func(m *impl.Message) { m.Pos, m.Answer = other, n })
		}
	}
}

func TestP11NamesOfMessages(t *testing.T) {
	names := []string{"a", "z", "m", "ab", "get", "abcd", "zzzzz", "abcdef", "zzzzzz", "aaaaaa"}
	for letter := 'a'; letter <= 'z'; letter++ {
		names = append(names, string(letter), "x"+string(letter)+"x", strings.Repeat(string(letter), 6))
	}
	for _, s := range names {
		for _, name := range p11Names() {
			p11CheckChanged(t, name, slices.Contains(p11Calls(), name), func(m *impl.Message) { m.Name = s })
		}
	}
	for _, s := range p11NotNames() {
		for _, name := range p11Names() {
			p11CheckChanged(t, name, s == "" && !slices.Contains(p11Calls(), name), func(m *impl.Message) { m.Name = s })
		}
	}
	for letter := range 256 {
		isLetter := letter >= 'a' && letter <= 'z'
		for _, s := range []string{string([]byte{byte(letter)}), string([]byte{'a', byte(letter)}), string([]byte{'a', 'a', 'a', 'a', 'a', byte(letter)})} {
			p11CheckChanged(t, "call of an export", isLetter, func(m *impl.Message) { m.Name = s })
			p11CheckChanged(t, "finish", false, func(m *impl.Message) { m.Name = s })
		}
	}
}

func TestP11NumbersOfArguments(t *testing.T) {
	for _, length := range []int{0, 1, 2, 3, 4, 5, 10, 100, 127, 128, 255, 256, 257, 258, 1000, 1<<16 + 1} {
		for _, name := range p11Names() {
			isCall := slices.Contains(p11Calls(), name)
			isValid := length == 0 || isCall && length <= 2
			p11CheckChanged(t, name, isValid, func(m *impl.Message) { m.Args = make([]impl.Wire, length) })
			p11CheckChanged(t, name, isValid, func(m *impl.Message) { m.Args = slices.Repeat([]impl.Wire{p11Wire(p11Mine, 5)}, length) })
			// What stands behind the arguments does not count, valid or not.
			p11CheckChanged(t, name, isValid, func(m *impl.Message) {
				m.Args = append(slices.Repeat([]impl.Wire{p11Wire(p11Int, 5)}, length), p11Wire(9, -1), p11Wire(p11Mine, 1))[:length]
			})
		}
	}
	for _, name := range p11Names() {
		for _, args := range [][]impl.Wire{nil, {}, make([]impl.Wire, 0, 5), make([]impl.Wire, 3)[:0], make([]impl.Wire, 3)[3:]} {
			p11CheckChanged(t, name, true, func(m *impl.Message) { m.Args = args })
		}
	}
}

func TestP11EveryArgument(t *testing.T) {
	others := []impl.Wire{p11Wire(p11Int, 0), p11Wire(p11Mine, 1), p11Wire(p11Yours, p11Most), p11Wire(p11Broken, 0), p11Wire(p11Broken, 1), p11Wire(p11Mine, 0)}
	for _, w := range p11Wires() {
		isValid := p11IsWire(w)
		p11CheckChanged(t, "call of an answer", isValid, func(m *impl.Message) { m.Args = []impl.Wire{w} })
		p11CheckChanged(t, "call of an export", isValid, func(m *impl.Message) { m.Args = []impl.Wire{w, w} })
		for _, x := range others {
			p11CheckChanged(t, "call of an export", isValid && p11IsWire(x), func(m *impl.Message) { m.Args = []impl.Wire{w, x} })
			p11CheckChanged(t, "call of an answer", isValid && p11IsWire(x), func(m *impl.Message) { m.Args = []impl.Wire{x, w} })
			p11CheckChanged(t, "call of an answer", false, func(m *impl.Message) { m.Args = []impl.Wire{x, x, w} })
		}
		for _, name := range []string{"return of mine", "echo", "echoed", "finish", "release"} {
			p11CheckChanged(t, name, false, func(m *impl.Message) { m.Args = []impl.Wire{w} })
		}
	}
}

func TestP11EveryValue(t *testing.T) {
	for _, w := range p11Wires() {
		for _, name := range p11Names() {
			isValid := w == impl.Wire{}
			if slices.Contains(p11Returns(), name) {
				isValid = p11IsWire(w)
			}
			p11CheckChanged(t, name, isValid, func(m *impl.Message) { m.Value = w })
		}
	}
}

func TestP11EveryTag(t *testing.T) {
	numbers := []int{0, 1, 2, p11Most, p11Most + 1, -1, 1<<32 + 1, math.MinInt64, math.MaxInt64}
	for _, vat := range numbers {
		for _, entity := range numbers {
			for _, seq := range numbers {
				tag := impl.Tag{Vat: vat, Entity: entity, Seq: seq}
				isTag := vat >= 1 && vat <= p11Most && entity >= 0 && entity <= p11Most && seq >= 1 && seq <= p11Most
				for _, name := range p11Names() {
					isValid := tag == impl.Tag{}
					if slices.Contains(p11Calls(), name) {
						isValid = isTag
					}
					p11CheckChanged(t, name, isValid, func(m *impl.Message) { m.Tag = tag })
				}
			}
		}
	}
}

// Small messages of every shape: each field has its least values, in all combinations.
func TestP11EverySmallMessage(t *testing.T) {
	args := [][]impl.Wire{nil, {p11Wire(p11Int, 0)}, {p11Wire(p11Mine, 0)}, {p11Wire(p11Yours, 1), p11Wire(p11Broken, 0)}, make([]impl.Wire, 3)}
	valid := 0
	for bits := range 1 << 9 {
		bit := func(place int) int { return bits >> place & 1 }
		for kind := range 8 {
			for _, list := range args {
				for value := range 4 {
					m := impl.Message{
						Kind: kind, Pos: bit(0), Answer: bit(1), Question: bit(2), Count: bit(3), Name: strings.Repeat("a", bit(4)), Args: list,
						Value: p11Wire(value, bit(5)), Tag: impl.Tag{Vat: bit(6), Entity: bit(7), Seq: bit(8)},
					}
					p11Check(t, m, p11IsMessage(m))
					if p11IsMessage(m) {
						valid++
					}
				}
			}
		}
	}
	// Calls with 2 targets, 2 entities and 3 lists, returns of 2 numbers, 2 exports and what is broken, echo, echoed, finish and release.
	if valid != 2*2*3+5+3+1 {
		t.Errorf("%d messages were valid", valid)
	}
}

// p11Changes returns changes of one field each, to values at and beyond its limits.
func p11Changes() []func(m *impl.Message) {
	list := []func(m *impl.Message){}
	for _, field := range p11Fields() {
		for _, n := range []int{0, 1, 2, 3, 5, 6, 7, p11Most, p11Most + 1, -1, 1<<32 + 1, math.MinInt64, math.MaxInt64} {
			list = append(list, func(m *impl.Message) { *p11Place(m, field) = n })
		}
	}
	for _, s := range []string{"", "a", "zzzzzz", "zzzzzzz", "Get", "g\x00"} {
		list = append(list, func(m *impl.Message) { m.Name = s })
	}
	for _, args := range [][]impl.Wire{{}, {{}}, {p11Wire(p11Yours, p11Most)}, {p11Wire(p11Mine, 0)}, {{}, p11Wire(p11Broken, 0)}, {{}, p11Wire(4, 1)}, {{}, {}, {}}} {
		list = append(list, func(m *impl.Message) { m.Args = args })
	}
	return list
}

func TestP11IsMessageAfterTwoChanges(t *testing.T) {
	changes, valid := p11Changes(), 0
	for _, name := range p11Names() {
		for _, one := range changes {
			for _, other := range changes {
				m := p11Samples()[name]
				one(&m)
				other(&m)
				p11Check(t, m, p11IsMessage(m))
				if p11IsMessage(m) {
					valid++
				}
			}
		}
	}
	// Had most changes nothing valid left, the test would say little.
	if valid < 10000 {
		t.Errorf("only %d messages were valid", valid)
	}
}

func TestP11MessageName(t *testing.T) {
	names := []string{"", "call", "return", "echo", "echoed", "finish", "release"}
	for kind := -300; kind <= 300; kind++ {
		want := ""
		if kind >= 1 && kind <= 6 {
			want = names[kind]
		}
		if got := impl.MessageName(kind); got != want {
			t.Errorf("MessageName(%d) is %q", kind, got)
		}
	}
	for _, kind := range p11OtherKinds() {
		if got := impl.MessageName(kind); got != "" {
			t.Errorf("MessageName(%d) is %q", kind, got)
		}
	}
	for _, kind := range []int{math.MinInt64 + 3, math.MinInt64 + 4, math.MinInt64 + 5, math.MaxInt64 - 1, 1<<32 + 3, 1<<32 + 4, 1<<8 + 3, 1<<8 + 4} {
		if got := impl.MessageName(kind); got != "" {
			t.Errorf("MessageName(%d) is %q", kind, got)
		}
	}
}

// The bytes are written out, so that the model of these tests is held against them as well.
func TestP11EncodeMessage(t *testing.T) {
	tag := impl.Tag{Vat: 5, Entity: 6, Seq: 7}
	cases := []struct {
		m    impl.Message
		want []byte
	}{
		{impl.Message{Kind: 1, Pos: 2, Question: 4, Name: "get", Tag: tag}, []byte{1, 2, 0, 4, 0, 5, 6, 7, 0, 0, 0, 3, 'g', 'e', 't'}},
		{impl.Message{Kind: 1, Answer: 3, Question: 4, Name: "g", Tag: tag}, []byte{1, 0, 3, 4, 0, 5, 6, 7, 0, 0, 0, 1, 'g'}},
		{impl.Message{Kind: 1, Answer: 3, Question: 4, Name: "abcdef", Args: []impl.Wire{{Kind: 1, N: 8}}, Tag: impl.Tag{Vat: 9, Seq: 11}}, []byte{1, 0, 3, 4, 0, 9, 0, 11, 0, 0, 1, 1, 8, 6, 'a', 'b', 'c', 'd', 'e', 'f'}},
		{impl.Message{Kind: 1, Pos: 2, Question: 4, Name: "zy", Args: []impl.Wire{{Kind: 2, N: 8}, {Kind: 3}}, Tag: tag}, []byte{1, 2, 0, 4, 0, 5, 6, 7, 0, 0, 2, 2, 8, 3, 0, 2, 'z', 'y'}},
		{impl.Message{Kind: 1, Pos: 2, Question: 4, Name: "a", Args: []impl.Wire{{}, {N: 9}}, Tag: tag}, []byte{1, 2, 0, 4, 0, 5, 6, 7, 0, 0, 2, 0, 0, 0, 9, 1, 'a'}},
		{impl.Message{Kind: 2, Question: 4}, []byte{2, 0, 0, 4, 0, 0, 0, 0, 0, 0, 0, 0}},
		{impl.Message{Kind: 2, Question: 4, Value: impl.Wire{N: 9}}, []byte{2, 0, 0, 4, 0, 0, 0, 0, 0, 9, 0, 0}},
		{impl.Message{Kind: 2, Question: 4, Value: impl.Wire{Kind: 1, N: 9}}, []byte{2, 0, 0, 4, 0, 0, 0, 0, 1, 9, 0, 0}},
		{impl.Message{Kind: 2, Question: 4, Value: impl.Wire{Kind: 2, N: 9}}, []byte{2, 0, 0, 4, 0, 0, 0, 0, 2, 9, 0, 0}},
		{impl.Message{Kind: 2, Question: 4, Value: impl.Wire{Kind: 3}}, []byte{2, 0, 0, 4, 0, 0, 0, 0, 3, 0, 0, 0}},
		{impl.Message{Kind: 3, Question: 4}, []byte{3, 0, 0, 4, 0, 0, 0, 0, 0, 0, 0, 0}},
		{impl.Message{Kind: 4, Question: 5}, []byte{4, 0, 0, 5, 0, 0, 0, 0, 0, 0, 0, 0}},
		{impl.Message{Kind: 5, Question: 6}, []byte{5, 0, 0, 6, 0, 0, 0, 0, 0, 0, 0, 0}},
		{impl.Message{Kind: 6, Pos: 2, Count: 3}, []byte{6, 2, 0, 0, 3, 0, 0, 0, 0, 0, 0, 0}},
		// numbers of more than one byte
		{impl.Message{Kind: 5, Question: 128}, []byte{5, 0, 0, 128, 1, 0, 0, 0, 0, 0, 0, 0, 0}},
		{impl.Message{Kind: 6, Pos: 127, Count: 999999}, []byte{6, 127, 0, 0, 191, 132, 61, 0, 0, 0, 0, 0, 0, 0}},
		{
			impl.Message{Kind: 1, Answer: 300, Question: 999999, Name: "a", Args: []impl.Wire{{N: 999999}, {Kind: 2, N: 300}}, Tag: impl.Tag{Vat: 301, Entity: 302, Seq: 16384}},
			[]byte{1, 0, 172, 2, 191, 132, 61, 0, 173, 2, 174, 2, 128, 128, 1, 0, 0, 2, 0, 191, 132, 61, 2, 172, 2, 1, 'a'},
		},
	}
	for _, c := range cases {
		if got := impl.EncodeMessage(c.m); !bytes.Equal(got, c.want) {
			t.Errorf("EncodeMessage of %+v is %v", c.m, got)
		}
		p11Check(t, c.m, true)
		p11ExpectDecoded(t, c.want, c.m, true)
	}
}

func TestP11EncodeMessageThatIsNotValid(t *testing.T) {
	list := []impl.Message{{}, {Kind: 7, Question: 1}, {Kind: -1, Question: 1}, {Kind: 5}, {Kind: 5, Question: -1}, {Kind: 5, Question: p11Most + 1}, {Kind: 5, Question: 1, Name: "a"}, {Kind: 6, Pos: 1}, {Kind: 2, Question: 1, Value: p11Wire(4, 0)}}
	for _, change := range []func(m *impl.Message){
		func(m *impl.Message) { m.Pos, m.Answer = 1, 1 }, func(m *impl.Message) { m.Pos, m.Answer = 0, 0 }, func(m *impl.Message) { m.Name = "" },
		func(m *impl.Message) { m.Args = make([]impl.Wire, 3) }, func(m *impl.Message) { m.Args[1].N = -1 }, func(m *impl.Message) { m.Tag.Seq = 0 }, func(m *impl.Message) { m.Value.N = 1 },
	} {
		m := p11Clone(p11Samples()["call of an export"])
		change(&m)
		list = append(list, m)
	}
	for _, m := range list {
		if got := impl.EncodeMessage(m); len(got) != 0 {
			t.Errorf("EncodeMessage of %+v is %v", m, got)
		}
		p11Check(t, m, false)
	}
}

// p11EachMessage visits many valid messages: every number of each at its limits and in between, in all combinations of two.
func p11EachMessage(visit func(m impl.Message)) {
	numbers := []int{1, 2, 99, 127, 128, 255, 256, 16383, 16384, p11Most - 1, p11Most}
	for _, n := range numbers {
		for _, o := range numbers {
			for kind := p11Echo; kind <= p11Finish; kind++ {
				visit(impl.Message{Kind: kind, Question: n})
			}
			visit(impl.Message{Kind: p11Release, Pos: n, Count: o})
			wires := []impl.Wire{{}, p11Wire(p11Int, o), p11Wire(p11Mine, o), p11Wire(p11Yours, o), p11Wire(p11Broken, 0)}
			for _, w := range wires {
				visit(impl.Message{Kind: p11Return, Question: n, Value: w})
				for _, name := range []string{"a", "get", "zzzzzz"} {
					m := impl.Message{Kind: p11Call, Question: o, Name: name, Tag: impl.Tag{Vat: n, Entity: o - 1, Seq: o}}
					for _, x := range wires {
						m.Args = [][]impl.Wire{nil, {w}, {w, x}}[(n+o+len(name)+x.Kind)%3]
						m.Pos, m.Answer = n, 0
						visit(p11Clone(m))
						m.Pos, m.Answer = 0, n
						visit(p11Clone(m))
					}
				}
			}
		}
	}
}

// The promise: a message is decoded from its encoding, and two messages never have the same one.
func TestP11DecodeMessageOfEveryEncoding(t *testing.T) {
	encodings := map[string]impl.Message{}
	p11EachMessage(func(m impl.Message) {
		p11Check(t, m, true)
		b := impl.EncodeMessage(m)
		got, ok := impl.DecodeMessage(b)
		if !ok || !impl.EqualMessages(got, m) || !p11Same(got, m) || !bytes.Equal(impl.EncodeMessage(got), b) {
			t.Errorf("DecodeMessage of the encoding of %+v is %+v, %v", m, got, ok)
		}
		if other, isThere := encodings[string(b)]; isThere && !p11Same(m, other) {
			t.Errorf("%+v and %+v have the encoding %v", m, other, b)
		}
		encodings[string(b)] = m
	})
	if len(encodings) < 3000 {
		t.Errorf("there were only %d encodings", len(encodings))
	}
}

func TestP11DecodeMessageOfNothing(t *testing.T) {
	for _, b := range [][]byte{nil, {}, p11Encode(p11Samples()["echo"])[:0], {0}, {1}, {6}, {255}, {128, 0}, make([]byte, 11), make([]byte, 12), make([]byte, 100), bytes.Repeat([]byte{255}, 30), bytes.Repeat([]byte{1}, 12)} {
		p11ExpectNone(t, "nothing", b)
	}
	for first := range 256 {
		for second := range 256 {
			p11ExpectNone(t, "two bytes", []byte{byte(first), byte(second)})
		}
	}
}

func TestP11DecodeMessageThatIsCutShort(t *testing.T) {
	for _, name := range p11Names() {
		for _, scale := range []int{1, 40, 9000} {
			b := p11Encode(p11Scaled(p11Samples()[name], scale))
			for size := range b {
				// Both with the rest of the encoding behind the slice, and without.
				p11ExpectNone(t, name, b[:size])
				p11ExpectNone(t, name, slices.Clone(b[:size]))
				p11ExpectNone(t, name+" without its beginning", b[size+1:])
				// One byte less, wherever it is: a number of two bytes may then be another one.
				shorter := slices.Concat(b[:size], b[size+1:])
				m, ok := p11Decode(shorter)
				p11ExpectDecoded(t, shorter, m, ok)
			}
		}
	}
}

// p11Scaled makes numbers larger, so that they have several bytes.
func p11Scaled(m impl.Message, scale int) impl.Message {
	m = p11Clone(m)
	for _, field := range p11Fields() {
		if field != "Kind" && field != "Value.Kind" {
			*p11Place(&m, field) *= scale
		}
	}
	for i := range m.Args {
		m.Args[i].N *= scale
	}
	return m
}

func TestP11DecodeMessageWithBytesBehindIt(t *testing.T) {
	for _, name := range p11Names() {
		b := p11Encode(p11Samples()[name])
		for c := range 256 {
			p11ExpectNone(t, name, append(slices.Clone(b), byte(c)))
			p11ExpectNone(t, name, append(slices.Clone(b), byte(c), 'a'))
			p11ExpectNone(t, name, slices.Concat([]byte{byte(c)}, b))
		}
		p11ExpectNone(t, name+" twice", slices.Concat(b, b))
		p11ExpectNone(t, name+" and zeros", append(slices.Clone(b), make([]byte, 100000)...))
		// What lies in the spare capacity does not count.
		for _, behind := range [][]byte{{0}, {'a'}, b} {
			p11ExpectDecoded(t, append(slices.Clone(b), behind...)[:len(b)], p11Samples()[name], true)
		}
	}
}

// One byte changed, or one more: what is then the encoding of another message is decoded, and all else rejected.
func TestP11DecodeMessageWithOneByteChanged(t *testing.T) {
	decoded := 0
	for _, name := range p11Names() {
		for _, scale := range []int{1, 40, 9000} {
			b := p11Encode(p11Scaled(p11Samples()[name], scale))
			for place := range b {
				for c := range 256 {
					changed := slices.Clone(b)
					changed[place] = byte(c)
					m, ok := p11Decode(changed)
					p11ExpectDecoded(t, changed, m, ok)
					longer := slices.Insert(slices.Clone(b), place, byte(c))
					n, isLonger := p11Decode(longer)
					p11ExpectDecoded(t, longer, n, isLonger)
					if ok {
						decoded++
					}
				}
			}
		}
	}
	// A third of the bytes stand for numbers that may be others.
	if decoded < 5000 {
		t.Errorf("only %d changed encodings were decoded", decoded)
	}
}

// p11WithPart puts other bytes in the place of a part of an encoding.
func p11WithPart(m impl.Message, place int, part []byte) []byte {
	parts := p11Parts(m)
	parts[place] = part
	return slices.Concat(parts...)
}

func TestP11DecodeMessageWithIntegersOutOfRange(t *testing.T) {
	for _, name := range p11Names() {
		m := p11Samples()[name]
		numbers := len(p11Parts(m)) - 1
		for place := range numbers {
			// The least that is too much for each of them, and what loses its upper bits or becomes negative.
			kept, _ := binary.Uvarint(p11Parts(m)[place])
			for _, n := range []int{p11Most + 1, p11Most + 2, 1 << 20, 1<<32 + int(kept), impl.MaxValue, impl.MaxValue + 1, math.MaxInt64, -1, -int(kept) - 1, math.MinInt64, math.MinInt64 + int(kept)} {
				p11ExpectNone(t, fmt.Sprint(name, " with ", n, " at ", place), p11WithPart(m, place, p11Varint(n)))
			}
			for _, c := range p02BadVarints() {
				p11ExpectNone(t, fmt.Sprint(name, " with ", c.reason, " at ", place), p11WithPart(m, place, c.bytes))
			}
			for size := range 12 {
				// The number itself, in more bytes than it needs.
				long := p11Parts(m)[place]
				long = append(append([]byte{long[0] | 128}, bytes.Repeat([]byte{128}, size)...), 0)
				p11ExpectNone(t, fmt.Sprint(name, " with ", long, " at ", place), p11WithPart(m, place, long))
			}
		}
	}
}

func TestP11DecodeMessageWithNumbersOfArguments(t *testing.T) {
	for _, name := range p11Names() {
		m := p11Samples()[name]
		for _, count := range []int{0, 1, 2, 3, 4, 5, 6, 7, 50, 100, 127, 128, 255, 256, 257, 258, 1 << 31, 1 << 32, 1<<32 + 1, 1<<32 + 2, 1 << 63 >> 2, impl.MaxValue, math.MaxInt64, -1, -2, -3, math.MinInt64, math.MinInt64 + 1, math.MinInt64 + 2} {
			if count != len(m.Args) {
				p11ExpectNone(t, fmt.Sprint(name, " with a count of ", count), p11WithPart(m, p11Head, p11Varint(count)))
			}
		}
		// As many as the count says, but too many, or of a message that takes none.
		for length := 1; length <= 130; length++ {
			x := m
			x.Args = slices.Repeat([]impl.Wire{p11Wire(p11Mine, 5)}, length)
			p11ExpectDecoded(t, p11Encode(x), x, length <= 2 && m.Kind == p11Call)
			// Fewer or more than the count says.
			for _, other := range []int{length - 1, length + 1} {
				p11ExpectNone(t, name, p11WithPart(x, p11Head, p11Varint(other)))
			}
		}
	}
}

func TestP11DecodeMessageWithNames(t *testing.T) {
	for _, name := range p11Names() {
		m := p11Samples()[name]
		length := len(p11Parts(m)) - 2
		for _, s := range p11NotNames() {
			if s != m.Name {
				m.Name = s
				p11ExpectNone(t, fmt.Sprintf("%s with the name %q", name, s), p11Encode(m))
				m = p11Samples()[name]
			}
		}
		// a length that is not that of the name
		for _, n := range []int{0, 1, 2, 3, 4, 5, 6, 7, 8, 100, 127, 128, 256 + len(m.Name), 1<<32 + len(m.Name), impl.MaxValue, math.MaxInt64, math.MaxInt64 - 20, -1, -len(m.Name), math.MinInt64, math.MinInt64 + len(m.Name)} {
			if n != len(m.Name) {
				p11ExpectNone(t, fmt.Sprint(name, " with a length of ", n), p11WithPart(m, length, p11Varint(n)))
			}
		}
		p11ExpectNone(t, name+" without a length", p11WithPart(m, length, nil))
	}
	for letter := range 256 {
		m := p11Samples()["call of an export"]
		m.Name = string([]byte{'a', byte(letter), 'b'})
		p11ExpectDecoded(t, p11Encode(m), m, letter >= 'a' && letter <= 'z')
	}
}

// A part of an encoding is missing, stands there twice, or behind the next one: what follows is then read in its place.
func TestP11DecodeMessageWithPartsInOtherPlaces(t *testing.T) {
	messages := []impl.Message{}
	for _, name := range p11Names() {
		messages = append(messages, p11Samples()[name])
	}
	for length := 1; length <= 6; length++ {
		for args := range 3 {
			// With a name and numbers that may be taken for one another.
			m := impl.Message{Kind: p11Call, Pos: length, Question: length, Name: "abcdef"[:length], Args: slices.Repeat([]impl.Wire{p11Wire(args, length)}, args), Tag: impl.Tag{Vat: length, Seq: length}}
			messages = append(messages, m)
		}
	}
	for _, m := range messages {
		parts := p11Parts(m)
		for place := range parts {
			inputs := [][][]byte{slices.Concat(parts[:place], parts[place+1:]), slices.Insert(slices.Clone(parts), place, parts[place])}
			if place > 0 {
				moved := slices.Clone(parts)
				moved[place-1], moved[place] = moved[place], moved[place-1]
				inputs = append(inputs, moved)
			}
			for _, input := range inputs {
				b := slices.Concat(input...)
				want, ok := p11Decode(b)
				p11ExpectDecoded(t, b, want, ok)
			}
		}
		p11ExpectNone(t, "without the number of arguments", p11WithPart(m, p11Head, nil))
	}
}

// Encodings of what is no valid message, although each integer and each name in them could be one of another message.
func TestP11DecodeMessageThatIsNotValid(t *testing.T) {
	for _, name := range p11Names() {
		for _, kind := range p11Kinds() {
			m := p11Samples()[name]
			m.Kind = kind
			p11ExpectDecoded(t, p11Encode(m), m, p11IsMessage(m))
		}
		for _, field := range p11Fields() {
			for _, n := range []int{0, 1, 2, 3, p11Most} {
				m := p11Samples()[name]
				*p11Place(&m, field) = n
				p11ExpectDecoded(t, p11Encode(m), m, p11IsMessage(m))
			}
		}
	}
	both, none, named := p11Samples()["call of an export"], p11Samples()["call of an export"], p11Samples()["echo"]
	both.Answer, none.Pos, named.Name = 8, 0, "get"
	for _, m := range []impl.Message{both, none, named} {
		p11ExpectNone(t, "not valid", p11Encode(m))
	}
}

// Bytes by chance, most of them small, so that some of the inputs are encodings.
func TestP11DecodeMessageOfBytesByChance(t *testing.T) {
	random := rand.New(rand.NewSource(11))
	decoded := 0
	for range 300000 {
		b := make([]byte, 10+random.Intn(8))
		for i := range b {
			b[i] = []byte{0, 0, 0, 0, 1, 1, 2, 3, 'a', byte(random.Intn(256))}[random.Intn(10)]
		}
		if random.Intn(2) == 0 {
			// The head of a message about a question.
			copy(b, []byte{byte(2 + random.Intn(4)), 0, 0, byte(random.Intn(130)), 0, 0, 0, 0})
		}
		m, ok := p11Decode(b)
		p11ExpectDecoded(t, b, m, ok)
		if ok {
			decoded++
		}
	}
	if decoded < 100 {
		t.Errorf("only %d inputs were encodings", decoded)
	}
}

// p11Spare returns a message whose arguments lie in a longer memory, and that memory.
func p11Spare(name string) (impl.Message, []impl.Wire) {
	m := p11Samples()[name]
	memory := append(slices.Clone(m.Args), p11Wire(p11Mine, 77), p11Wire(p11Mine, 78), p11Wire(p11Mine, 79))
	m.Args = memory[:len(m.Args)]
	return m, memory
}

func p11Overwrite(args []impl.Wire) {
	args = args[:cap(args)]
	for i := range args {
		args[i] = p11Wire(-9, -9)
	}
}

func TestP11NothingIsWritten(t *testing.T) {
	for _, name := range p11Names() {
		for _, other := range p11Names() {
			m, memory := p11Spare(name)
			o, otherMemory := p11Spare(other)
			kept, otherKept := slices.Clone(memory), slices.Clone(otherMemory)
			want := p11Clone(m)
			impl.IsMessage(m)
			impl.EncodeMessage(m)
			impl.EqualMessages(m, o)
			impl.EqualMessages(o, m)
			if !slices.Equal(memory, kept) || !slices.Equal(otherMemory, otherKept) || !p11Same(m, want) {
				t.Errorf("%s and %s: the arguments have become %v and %v", name, other, memory, otherMemory)
			}
		}
		for _, behind := range [][]byte{nil, {0}, {'a', 0, 3}, make([]byte, 20)} {
			b, memory := p02Spare(slices.Concat(p11Encode(p11Samples()[name]), behind)...)
			kept := slices.Clone(memory)
			for size := range len(b) + 1 {
				impl.DecodeMessage(b[:size])
			}
			if !bytes.Equal(memory, kept) {
				t.Errorf("%s: the bytes have become %v", name, memory)
			}
		}
	}
}

func TestP11EncodingsShareNoMemory(t *testing.T) {
	for _, name := range p11Names() {
		m, memory := p11Spare(name)
		kept := slices.Clone(memory)
		first, second := impl.EncodeMessage(m), impl.EncodeMessage(m)
		want := p11Encode(m)
		p02Overwrite(first)
		if !bytes.Equal(second, want) || !slices.Equal(memory, kept) || !bytes.Equal(impl.EncodeMessage(m), want) {
			t.Errorf("%s: with an encoding, another one has become %v, and the arguments %v", name, second, memory)
		}
		p11Overwrite(memory)
		if !bytes.Equal(second, want) {
			t.Errorf("%s: with the arguments, the encoding has become %v", name, second)
		}
	}
	// What is returned for messages that are not valid is new as well.
	first := impl.EncodeMessage(impl.Message{})
	p02Overwrite(first)
	if got := impl.EncodeMessage(impl.Message{}); len(got) != 0 {
		t.Errorf("%v", got)
	}
}

func TestP11DecodedMessagesShareNoMemory(t *testing.T) {
	for _, name := range p11Names() {
		b, _ := p02Spare(p11Encode(p11Samples()[name])...)
		first, _ := impl.DecodeMessage(b)
		second, _ := impl.DecodeMessage(b)
		p11Overwrite(first.Args)
		if !p11Same(second, p11Samples()[name]) || !bytes.Equal(b, p11Encode(p11Samples()[name])) {
			t.Errorf("%s: with a message, another one has become %+v, and the bytes %v", name, second, b)
		}
		p02Overwrite(b)
		if !p11Same(second, p11Samples()[name]) {
			t.Errorf("%s: with the bytes, the message has become %+v", name, second)
		}
	}
	if m, ok := impl.DecodeMessage(nil); ok || len(m.Args) != 0 {
		t.Errorf("%+v", m)
	}
}

// p11Full has every field set, no two numbers of it alike, so that each of them can be changed.
func p11Full() impl.Message {
	return impl.Message{
		Kind: 21, Pos: 22, Answer: 23, Question: 24, Name: "get", Args: []impl.Wire{p11Wire(31, 32), p11Wire(33, 34), p11Wire(35, 36)},
		Value: p11Wire(25, 26), Count: 27, Tag: impl.Tag{Vat: 28, Entity: 29, Seq: 30},
	}
}

func p11ExpectDifferent(t *testing.T, name string, a, b impl.Message) {
	t.Helper()
	if impl.EqualMessages(a, b) || impl.EqualMessages(b, a) {
		t.Errorf("%s: %+v is equal to %+v", name, a, b)
	}
	if !impl.EqualMessages(b, p11Clone(b)) {
		t.Errorf("%s: %+v is not equal to its copy", name, b)
	}
}

func TestP11EqualMessagesThatAreAlike(t *testing.T) {
	list := []impl.Message{
		{}, p11Full(), {Kind: -1}, {Pos: 1}, {Answer: 1}, {Question: 1}, {Count: 1}, {Name: "a"}, {Name: "\x00"}, {Value: p11Wire(0, 1)}, {Value: p11Wire(1, 0)},
		{Tag: impl.Tag{Vat: 1}}, {Tag: impl.Tag{Entity: 1}}, {Tag: impl.Tag{Seq: 1}}, {Args: make([]impl.Wire, 1)}, {Args: make([]impl.Wire, 2)}, {Args: []impl.Wire{{N: 1}}}, {Args: []impl.Wire{{Kind: 1}}},
	}
	for _, name := range p11Names() {
		list = append(list, p11Samples()[name])
	}
	for i, a := range list {
		for j, b := range list {
			// Copies, so that equal memory is not what makes them equal.
			if got := impl.EqualMessages(a, p11Clone(b)); got != (i == j) {
				t.Errorf("EqualMessages of %+v and %+v is %v", a, b, got)
			}
		}
		if !impl.EqualMessages(a, a) {
			t.Errorf("%+v is not equal to itself", a)
		}
	}
}

func TestP11EqualMessagesThatDifferInOnePlace(t *testing.T) {
	full, changed := p11Full(), p11Full()
	places := p09Leaves(reflect.ValueOf(&changed).Elem())
	// 10 numbers, the name, the list and the 6 numbers in it.
	if len(places) != 10+1+1+6 {
		t.Fatalf("%d places", len(places))
	}
	for i, place := range places {
		tried := 0
		p09Variants(place, func() {
			tried++
			p11ExpectDifferent(t, fmt.Sprint("place ", i), full, changed)
		})
		if tried == 0 {
			t.Errorf("place %d was not changed", i)
		}
	}
	if !impl.EqualMessages(full, changed) || !impl.EqualMessages(changed, full) {
		t.Errorf("%+v and %+v are not equal", full, changed)
	}
}

func TestP11EqualMessagesThatDifferInTwoPlaces(t *testing.T) {
	// All pairs of numbers: exchanged, and one made larger by as much as the other one is made smaller.
	full, changed := p11Full(), p11Full()
	places := []*int{}
	for _, field := range p11Fields() {
		places = append(places, p11Place(&changed, field))
	}
	for i := range changed.Args {
		places = append(places, &changed.Args[i].Kind, &changed.Args[i].N)
	}
	for i, one := range places {
		for j, other := range places {
			if i == j {
				continue
			}
			a, b := *one, *other
			for _, x := range [][2]int{{b, a}, {a + 1, b - 1}, {a + 1, b + 1}, {b, b}, {a ^ b, 0}} {
				*one, *other = x[0], x[1]
				p11ExpectDifferent(t, fmt.Sprint("places ", i, " and ", j), full, changed)
			}
			*one, *other = a, b
		}
	}
}

func TestP11EqualMessagesWithArgumentsInAnotherOrder(t *testing.T) {
	for _, order := range [][]int{{0, 2, 1}, {1, 0, 2}, {1, 2, 0}, {2, 0, 1}, {2, 1, 0}} {
		changed := p11Full()
		for i, place := range order {
			changed.Args[i] = p11Full().Args[place]
		}
		p11ExpectDifferent(t, fmt.Sprint("the order ", order), p11Full(), changed)
	}
	one, other := p11Samples()["call of an export"], p11Samples()["call of an export"]
	other.Args = []impl.Wire{one.Args[1], one.Args[0]}
	p11ExpectDifferent(t, "two arguments", one, other)
	moved := p11Full()
	moved.Value, moved.Args[0] = moved.Args[0], moved.Value
	p11ExpectDifferent(t, "Value and an argument", p11Full(), moved)
}

func TestP11EqualMessagesWithListsOfDifferentLength(t *testing.T) {
	memory := slices.Repeat([]impl.Wire{p11Wire(1, 2)}, 6)
	for i := range 6 {
		for j := range 6 {
			for _, w := range []impl.Wire{{}, p11Wire(1, 2)} {
				a, b := p11Full(), p11Full()
				// All arguments are alike, or zero: the lengths alone make the difference.
				a.Args, b.Args = slices.Repeat([]impl.Wire{w}, i), slices.Repeat([]impl.Wire{w}, j)
				if got := impl.EqualMessages(a, b); got != (i == j) {
					t.Errorf("EqualMessages of %+v and %+v is %v", a, b, got)
				}
				// The lengths count, not what lies in the spare capacity.
				a.Args, b.Args = memory[:i], memory[:j]
				if got := impl.EqualMessages(a, b); got != (i == j) {
					t.Errorf("EqualMessages of parts of one memory, %d and %d, is %v", i, j, got)
				}
			}
		}
	}
}

func TestP11EqualMessagesWithNilAndEmptyLists(t *testing.T) {
	lists := [][]impl.Wire{nil, {}, make([]impl.Wire, 0, 5), make([]impl.Wire, 3)[:0], p11Full().Args[3:]}
	for _, a := range lists {
		for _, b := range lists {
			one, other := p11Full(), p11Full()
			one.Args, other.Args = a, b
			if !impl.EqualMessages(one, other) || !impl.EqualMessages(impl.Message{Args: a}, impl.Message{Args: b}) {
				t.Errorf("%#v and %#v are not equal", one, other)
			}
			other.Args = make([]impl.Wire, 1)
			p11ExpectDifferent(t, "a list of one zero element", one, other)
		}
	}
}
