package tests

import (
	"math"
	"slices"
	"strings"
	"testing"

	"loop.example/g00591/impl"
)

// p06Code returns so many valid instructions, no two of which are the same.
func p06Code(length int) []impl.Instr {
	code := []impl.Instr{}
	for i := range length {
		code = append(code, impl.Instr{Op: impl.InConst, A: i % 8, B: 100 + i})
	}
	return code
}

// p06Method returns a valid method that writes the number mark, so that methods with one name can be told apart.
func p06Method(name string, mark int) impl.Method {
	return impl.Method{Name: name, Code: []impl.Instr{{Op: impl.InConst, A: 1, B: mark}, {Op: impl.InReturn, A: 1}}}
}

// p06Methods returns valid methods with these names, if they are names; method i writes the number i.
func p06Methods(names ...string) []impl.Method {
	methods := []impl.Method{}
	for i, name := range names {
		methods = append(methods, p06Method(name, i))
	}
	return methods
}

// p06Library returns scripts with these names; script i has the one method "get", which writes the number i.
func p06Library(names ...string) []impl.Script {
	l := []impl.Script{}
	for i, name := range names {
		l = append(l, impl.Script{Name: name, Methods: []impl.Method{p06Method("get", i)}})
	}
	return l
}

// p06Mark is the number that p06Method was given.
func p06Mark(m impl.Method) int {
	if len(m.Code) != 2 {
		return -1
	}
	return m.Code[0].B
}

func p06NoInstrs() []impl.Instr {
	return []impl.Instr{
		{}, {Op: -1}, {Op: 11}, {Op: impl.InConst, A: 8}, {Op: impl.InConst, B: 1000000}, {Op: impl.InArg, B: 2}, {Op: impl.InSlot, B: 3},
		{Op: impl.InSelf, B: 1}, {Op: impl.InAdd, D: 1}, {Op: impl.InSend, C: -1, D: -1}, {Op: impl.InSend, C: -1, Name: "get"},
		{Op: impl.InNew, B: 1, Name: "cell"}, {Op: impl.InSet, A: 3}, {Op: impl.InSkip}, {Op: impl.InReturn, A: -1}, {Op: impl.InReturn, Name: "get"},
	}
}

func p06FarIndices(length int) []int {
	return []int{
		-1, -2, -length, -length - 1, length, length + 1, 1 << 8, 1 << 16, 1 << 32, 1<<32 + 1, -1 << 32, 1 - 1<<32,
		math.MinInt64, math.MinInt64 + 1, math.MaxInt64, math.MaxInt64 - 1,
	}
}

// p06EachNames calls visit with every list of at most maxLength of these names.
func p06EachNames(names []string, maxLength int, visit func(list []string)) {
	var extend func(list []string)
	extend = func(list []string) {
		visit(list)
		if len(list) == maxLength {
			return
		}
		for _, name := range names {
			extend(append(slices.Clone(list), name))
		}
	}
	extend([]string{})
}

// p06AreDifferentNames holds every pair against each other, and each name against the names of the tests.
func p06AreDifferentNames(list []string, valid []string) bool {
	for i, name := range list {
		if !slices.Contains(valid, name) || slices.Contains(list[:i], name) {
			return false
		}
	}
	return true
}

func TestP06Constants(t *testing.T) {
	if impl.MaxMethods != 4 || impl.MaxScripts != 6 {
		t.Error(impl.MaxMethods, impl.MaxScripts)
	}
}

func TestP06IsMethodByLength(t *testing.T) {
	for length := range 40 {
		m := impl.Method{Name: "get", Code: p06Code(length)}
		if got := impl.IsMethod(m); got != (length <= 12) {
			t.Errorf("with %d instructions, IsMethod is %v", length, got)
		}
	}
	for _, length := range []int{256, 257, 268, 1 << 16} {
		if impl.IsMethod(impl.Method{Name: "get", Code: p06Code(length)}) {
			t.Errorf("%d instructions are a method", length)
		}
	}
	if !impl.IsMethod(impl.Method{Name: "get"}) || !impl.IsMethod(impl.Method{Name: "get", Code: []impl.Instr{}}) {
		t.Error("without instructions")
	}
}

func TestP06IsMethodWithOneInvalidInstruction(t *testing.T) {
	for _, bad := range p06NoInstrs() {
		for length := 1; length <= 12; length++ {
			for place := range length {
				code := p06Code(length)
				code[place] = bad
				if impl.IsMethod(impl.Method{Name: "get", Code: code}) {
					t.Errorf("%+v at %d of %d is in a method", bad, place, length)
				}
			}
		}
	}
}

func TestP06IsMethodWithEveryOperation(t *testing.T) {
	for _, f := range p05Forms() {
		if !impl.IsMethod(impl.Method{Name: "get", Code: []impl.Instr{f.sample}}) {
			t.Errorf("%+v alone is no method", f.sample)
		}
	}
	// The same instruction may stand as often as there is room, and nothing need be the last one.
	for _, x := range []impl.Instr{{Op: impl.InSelf}, {Op: impl.InReturn}, {Op: impl.InSkip, B: 12}} {
		if !impl.IsMethod(impl.Method{Name: "get", Code: slices.Repeat([]impl.Instr{x}, 12)}) {
			t.Errorf("%+v twelve times is no method", x)
		}
	}
}

func TestP06IsMethodByName(t *testing.T) {
	for _, name := range []string{"a", "get", "abcdef"} {
		if !impl.IsMethod(impl.Method{Name: name, Code: p06Code(3)}) || !impl.IsMethod(impl.Method{Name: name}) {
			t.Errorf("%q names no method", name)
		}
	}
	for _, name := range p05NotNames() {
		if impl.IsMethod(impl.Method{Name: name, Code: p06Code(3)}) || impl.IsMethod(impl.Method{Name: name}) {
			t.Errorf("%q names a method", name)
		}
	}
	if impl.IsMethod(impl.Method{}) {
		t.Error("the zero method")
	}
}

func TestP06IsScriptByNumberOfMethods(t *testing.T) {
	names := strings.Fields("a b c d e f g h i")
	for length := range len(names) + 1 {
		s := impl.Script{Name: "cell", Methods: p06Methods(names[:length]...)}
		if got := impl.IsScript(s); got != (length <= 4) {
			t.Errorf("with %d methods, IsScript is %v", length, got)
		}
	}
	if !impl.IsScript(impl.Script{Name: "cell"}) || !impl.IsScript(impl.Script{Name: "cell", Methods: []impl.Method{}}) {
		t.Error("without methods")
	}
	// One name for too many methods does not make them fewer.
	for _, length := range []int{5, 6, 256, 257, 260} {
		if impl.IsScript(impl.Script{Name: "cell", Methods: slices.Repeat(p06Methods("get"), length)}) {
			t.Errorf("%d methods of one name", length)
		}
	}
}

func TestP06IsScriptWithMethodsOfOneName(t *testing.T) {
	lists := []string{
		"get get", "get get set", "set get get", "get set get", "get get set put", "get set get put", "get set put get", "set get get put",
		"set get put get", "set put get get", "get get get", "get get set set", "get set get set", "get set set get", "get get get get",
	}
	for _, list := range lists {
		methods := p06Methods(strings.Fields(list)...)
		if impl.IsScript(impl.Script{Name: "cell", Methods: methods}) {
			t.Errorf("%s with different code", list)
		}
		for i := range methods {
			methods[i].Code = p06Code(2)
		}
		if impl.IsScript(impl.Script{Name: "cell", Methods: methods}) {
			t.Errorf("%s with the same code", list)
		}
	}
	// Names count, not code, and a method may be named like its script.
	for _, list := range []string{"get set", "get gets", "g ge get gett", "ab ba", "cell", "a b c d", "d c b a"} {
		methods := p06Methods(strings.Fields(list)...)
		for i := range methods {
			methods[i].Code = p06Code(2)
		}
		if !impl.IsScript(impl.Script{Name: "cell", Methods: methods}) {
			t.Errorf("%s with the same code", list)
		}
	}
}

func TestP06IsScriptWithOneInvalidMethod(t *testing.T) {
	bad := []impl.Method{{}, {Name: "Get"}, {Code: p06Code(1)}, {Name: "get", Code: p06Code(13)}, {Name: "get", Code: make([]impl.Instr, 1)}, {Name: "getting"}}
	for _, m := range bad {
		for length := 1; length <= 4; length++ {
			for place := range length {
				methods := p06Methods(strings.Fields("a b c d")[:length]...)
				methods[place] = m
				if impl.IsScript(impl.Script{Name: "cell", Methods: methods}) {
					t.Errorf("%+v at %d of %d is in a script", m, place, length)
				}
			}
		}
	}
}

// A method that is not valid is not made good by a valid one of the same name, before it or behind it.
func TestP06IsScriptWithAnInvalidMethodOfOneName(t *testing.T) {
	good, bad := p06Method("get", 1), impl.Method{Name: "get", Code: make([]impl.Instr, 1)}
	for _, methods := range [][]impl.Method{{good, bad}, {bad, good}, {bad, bad}, {good, bad, good}} {
		if impl.IsScript(impl.Script{Name: "cell", Methods: methods}) {
			t.Errorf("%+v are in a script", methods)
		}
	}
}

func TestP06IsScriptByName(t *testing.T) {
	for _, name := range []string{"a", "cell", "abcdef", "get"} {
		if !impl.IsScript(impl.Script{Name: name, Methods: p06Methods("get", "set")}) {
			t.Errorf("%q names no script", name)
		}
	}
	for _, name := range p05NotNames() {
		if impl.IsScript(impl.Script{Name: name, Methods: p06Methods("get", "set")}) || impl.IsScript(impl.Script{Name: name}) {
			t.Errorf("%q names a script", name)
		}
	}
	if impl.IsScript(impl.Script{}) {
		t.Error("the zero script")
	}
}

func TestP06IsScriptOfManyLists(t *testing.T) {
	valid := []string{"a", "b", "ab", "abcdef"}
	p06EachNames(append([]string{"", "A"}, valid...), 5, func(list []string) {
		want := len(list) <= 4 && p06AreDifferentNames(list, valid)
		if got := impl.IsScript(impl.Script{Name: "cell", Methods: p06Methods(list...)}); got != want {
			t.Errorf("with the methods %q, IsScript is %v", list, got)
		}
	})
}

func TestP06IsLibraryByNumberOfScripts(t *testing.T) {
	names := strings.Fields("a b c d e f g h i")
	for length := range len(names) + 1 {
		if got := impl.IsLibrary(p06Library(names[:length]...)); got != (length <= 6) {
			t.Errorf("with %d scripts, IsLibrary is %v", length, got)
		}
	}
	if !impl.IsLibrary(nil) || !impl.IsLibrary([]impl.Script{}) {
		t.Error("without scripts")
	}
	for _, length := range []int{7, 8, 256, 257, 262} {
		if impl.IsLibrary(slices.Repeat(p06Library("cell"), length)) {
			t.Errorf("%d scripts of one name", length)
		}
	}
}

func TestP06IsLibraryWithScriptsOfOneName(t *testing.T) {
	lists := []string{
		"cell cell", "cell cell gate", "gate cell cell", "cell gate cell", "cell cell a b c d", "cell a b c d cell", "a cell b c cell d",
		"a b c d cell cell", "a b cell cell c d", "cell cell cell", "cell gate cell gate", "cell cell cell cell cell cell",
	}
	for _, list := range lists {
		l := p06Library(strings.Fields(list)...)
		if impl.IsLibrary(l) {
			t.Errorf("%s with different methods", list)
		}
		for i := range l {
			l[i].Methods = nil
		}
		if impl.IsLibrary(l) {
			t.Errorf("%s without methods", list)
		}
	}
	for _, list := range []string{"cell gate", "cell cells", "c ce cel cell", "get", "f e d c b a"} {
		l := p06Library(strings.Fields(list)...)
		for i := range l {
			l[i].Methods = p06Methods("get", "set")
		}
		if !impl.IsLibrary(l) {
			t.Errorf("%s with the same methods", list)
		}
	}
}

func TestP06IsLibraryWithOneInvalidScript(t *testing.T) {
	bad := []impl.Script{
		{}, {Name: "Cell"}, {Methods: p06Methods("get")}, {Name: "cell", Methods: p06Methods("get", "get")}, {Name: "cell", Methods: p06Methods("")},
		{Name: "cell", Methods: p06Methods("a", "b", "c", "d", "e")}, {Name: "cell", Methods: []impl.Method{{Name: "get", Code: p06Code(13)}}},
		{Name: "cell", Methods: []impl.Method{{Name: "get", Code: make([]impl.Instr, 1)}}}, {Name: "cell", Methods: make([]impl.Method, 1)},
	}
	for _, s := range bad {
		for length := 1; length <= 6; length++ {
			for place := range length {
				l := p06Library(strings.Fields("a b c d e f")[:length]...)
				l[place] = s
				if impl.IsLibrary(l) {
					t.Errorf("%+v at %d of %d is in a library", s, place, length)
				}
			}
		}
		if s.Name == "cell" && (impl.IsLibrary(append(p06Library("cell"), s)) || impl.IsLibrary(append([]impl.Script{s}, p06Library("cell")...))) {
			t.Errorf("%+v is in a library, beside a valid script of its name", s)
		}
	}
}

func TestP06IsLibraryOfManyLists(t *testing.T) {
	valid := []string{"a", "b", "ab", "abcdef"}
	p06EachNames(append([]string{"", "A"}, valid...), 5, func(list []string) {
		want := p06AreDifferentNames(list, valid)
		if got := impl.IsLibrary(p06Library(list...)); got != want {
			t.Errorf("with the scripts %q, IsLibrary is %v", list, got)
		}
	})
}

func TestP06FindScript(t *testing.T) {
	cases := []struct {
		list string
		name string
		want int
	}{
		{"cell gate meter", "cell", 0}, {"cell gate meter", "gate", 1}, {"cell gate meter", "meter", 2}, {"cell", "cell", 0},
		{"cell gate meter", "box", -1}, {"cell gate meter", "", -1}, {"", "", -1}, {"", "cell", -1},
		{"cell gate meter", "cel", -1}, {"cell gate meter", "cells", -1}, {"cell gate meter", "Cell", -1}, {"cell gate meter", "ell", -1},
		{"cell gate meter", "cell gate", -1}, {"cell gate meter", " cell", -1}, {"cell gate meter", "cell\x00", -1},
		// twice, side by side and apart
		{"cell cell gate", "cell", 0}, {"gate cell cell", "cell", 1}, {"cell gate cell", "cell", 0}, {"box gate a gate", "gate", 1},
		{"box gate a gate", "a", 2}, {"c b a c b a", "a", 2}, {"b b b a", "a", 3},
		// libraries that are too long, or have names that are none
		{"a b c d e f g h", "h", 7}, {"a b c d e f g h", "a", 0}, {"cell Cell CELL", "CELL", 2}, {"getting cell", "getting", 0}, {"é è", "è", 1},
	}
	for _, c := range cases {
		if got := impl.FindScript(p06Library(strings.Fields(c.list)...), c.name); got != c.want {
			t.Errorf("in %q, FindScript of %q is %d", c.list, c.name, got)
		}
	}
	if got := impl.FindScript(p06Library("cell", "", "gate", ""), ""); got != 1 {
		t.Errorf("a script with the empty name is at %d", got)
	}
	if got := impl.FindScript(nil, "cell"); got != -1 {
		t.Errorf("in nothing, FindScript is %d", got)
	}
	// The names of methods do not count.
	if got := impl.FindScript(p06Library("cell", "gate"), "get"); got != -1 {
		t.Errorf("FindScript of a method is %d", got)
	}
}

func TestP06FindScriptInManyLists(t *testing.T) {
	names := []string{"", "A", "a", "b", "ab"}
	p06EachNames(names, 5, func(list []string) {
		for _, name := range append(names, "c") {
			if got, want := impl.FindScript(p06Library(list...), name), slices.Index(list, name); got != want {
				t.Errorf("in %q, FindScript of %q is %d", list, name, got)
			}
		}
	})
}

// p06SomeScripts has names that stand twice, once and nowhere, a script without methods, and one that is not valid.
func p06SomeScripts() []impl.Script {
	return []impl.Script{
		{Name: "cell", Methods: p06Methods("get", "set", "get")},
		{Name: "none"},
		{Name: "cell", Methods: p06Methods("put", "get", "get", "add")},
		{Name: "", Methods: p06Methods("Get", "", "gett", "ge", "get", "a", "")},
		{Name: "gate", Methods: p06Methods("open", "shut")},
	}
}

func TestP06MethodOf(t *testing.T) {
	cases := []struct {
		script int
		name   string
		want   int
	}{
		{0, "get", 0}, {0, "set", 1}, {0, "put", -1}, {0, "", -1}, {0, "cell", -1},
		{1, "get", -1}, {1, "", -1}, {1, "none", -1},
		{2, "get", 1}, {2, "put", 0}, {2, "add", 3}, {2, "set", -1},
		{3, "get", 4}, {3, "Get", 0}, {3, "", 1}, {3, "ge", 3}, {3, "gett", 2}, {3, "a", 5}, {3, "gettt", -1}, {3, "g", -1},
		{4, "open", 0}, {4, "shut", 1}, {4, "get", -1}, {4, "Open", -1}, {4, "open ", -1},
	}
	for _, c := range cases {
		m, ok := impl.MethodOf(p06SomeScripts(), c.script, c.name)
		if ok != (c.want >= 0) {
			t.Errorf("MethodOf(%d, %q) says %v", c.script, c.name, ok)
		}
		if ok && (m.Name != c.name || p06Mark(m) != c.want || len(m.Code) != 2) {
			t.Errorf("MethodOf(%d, %q) is %+v", c.script, c.name, m)
		}
		if !ok && (m.Name != "" || len(m.Code) != 0) {
			t.Errorf("without a method, MethodOf(%d, %q) is %+v", c.script, c.name, m)
		}
	}
}

func TestP06MethodOfIndicesThatAreNotThere(t *testing.T) {
	some := p06SomeScripts()
	for length := range len(some) + 1 {
		for _, script := range p06FarIndices(length) {
			if script >= 0 && script < length {
				continue
			}
			for _, name := range []string{"get", "set", "open", ""} {
				m, ok := impl.MethodOf(some[:length], script, name)
				if ok || m.Name != "" || len(m.Code) != 0 {
					t.Errorf("of %d scripts, MethodOf(%d, %q) is %+v, %v", length, script, name, m, ok)
				}
			}
		}
	}
	if m, ok := impl.MethodOf(nil, 0, ""); ok || m.Name != "" || len(m.Code) != 0 {
		t.Errorf("of nothing, MethodOf is %+v, %v", m, ok)
	}
}

func TestP06MethodOfGivesTheCodeAsItIs(t *testing.T) {
	codes := [][]impl.Instr{nil, {}, p06Code(1), p06Code(12), p06Code(13), p06Code(300), p06NoInstrs()}
	for _, code := range codes {
		l := []impl.Script{{Name: "none"}, {Name: "cell", Methods: []impl.Method{p06Method("a", 7), {Name: "get", Code: code}, p06Method("b", 8)}}}
		m, ok := impl.MethodOf(l, 1, "get")
		if !ok || m.Name != "get" || !slices.Equal(m.Code, code) {
			t.Errorf("the code %+v is found as %+v, %v", code, m, ok)
		}
	}
}

// The promise: a method that is found has its name, is the first one that has it, and is found wherever there is one.
func TestP06AMethodThatIsFoundHasItsName(t *testing.T) {
	names := []string{"", "A", "a", "b", "ab"}
	p06EachNames(names, 5, func(list []string) {
		l := []impl.Script{{Name: "none"}, {Name: "cell", Methods: p06Methods(list...)}, {Name: "x", Methods: p06Methods("c", "a")}}
		for _, name := range append(names, "c") {
			m, ok := impl.MethodOf(l, 1, name)
			if ok != slices.Contains(list, name) {
				t.Errorf("among %q, MethodOf %q says %v", list, name, ok)
			}
			if ok && (m.Name != name || p06Mark(m) != slices.Index(list, name)) {
				t.Errorf("among %q, MethodOf %q is %+v", list, name, m)
			}
			if !ok && (m.Name != "" || len(m.Code) != 0) {
				t.Errorf("among %q, MethodOf %q is no method, but %+v", list, name, m)
			}
		}
	})
}

func TestP06MethodOfSharesNoMemory(t *testing.T) {
	l := p06SomeScripts()
	// Code with room behind it, where an append of the caller could reach the next one.
	l[0].Methods[0].Code = p06Code(5)[:3]
	first, _ := impl.MethodOf(l, 0, "get")
	second, _ := impl.MethodOf(l, 0, "get")
	for i := range first.Code {
		first.Code[i] = impl.Instr{Op: 99}
	}
	first.Code = append(first.Code, impl.Instr{Op: 98})
	if !slices.Equal(l[0].Methods[0].Code[:5], p06Code(5)) {
		t.Errorf("the library has become %+v", l[0].Methods[0].Code[:5])
	}
	if !slices.Equal(second.Code, p06Code(3)) {
		t.Errorf("the second answer has become %+v", second.Code)
	}
	l[0].Methods[0].Code[1] = impl.Instr{Op: 97}
	l[0].Methods[0].Name = "other"
	if !slices.Equal(second.Code, p06Code(3)) || second.Name != "get" {
		t.Errorf("with the library, the answer has become %+v", second)
	}
	// An empty code may have room behind it as well.
	l[4].Methods[0].Code = p06Code(2)[:0]
	empty, ok := impl.MethodOf(l, 4, "open")
	empty.Code = append(empty.Code, impl.Instr{Op: 96})
	if !ok || !slices.Equal(l[4].Methods[0].Code[:2], p06Code(2)) {
		t.Errorf("behind the empty code is %+v", l[4].Methods[0].Code[:2])
	}
}

func TestP06Ends(t *testing.T) {
	end := impl.Instr{Op: 10, A: 1}
	other := impl.Instr{Op: 1, A: 1, B: 10}
	cases := []struct {
		code []impl.Instr
		want bool
	}{
		{nil, false}, {[]impl.Instr{}, false}, {[]impl.Instr{end}, true}, {[]impl.Instr{other}, false}, {[]impl.Instr{other, end}, true},
		{[]impl.Instr{end, other}, false}, {[]impl.Instr{end, end}, true}, {[]impl.Instr{end, other, other}, false}, {[]impl.Instr{other, end, other}, false},
		{append(p06Code(11), end), true}, {p06Code(12), false}, {append(append(p06Code(10), end), other), false},
		// also of methods that are not valid
		{append(p06Code(12), end), true}, {append(append(p06Code(11), end), other), false}, {[]impl.Instr{{}, {Op: 10, A: 9, B: 3, Name: "x"}}, true},
		{[]impl.Instr{{Op: 10}, {}}, false}, {[]impl.Instr{{}}, false}, {p06Code(300), false}, {append(p06Code(300), end), true},
	}
	for _, c := range cases {
		for _, name := range []string{"get", "", "Get", "return"} {
			if got := impl.Ends(impl.Method{Name: name, Code: c.code}); got != c.want {
				t.Errorf("Ends of %q, %+v is %v", name, c.code, got)
			}
		}
	}
	// What stands behind the slice is no part of the code.
	if impl.Ends(impl.Method{Code: []impl.Instr{other, end}[:1]}) || impl.Ends(impl.Method{Code: []impl.Instr{end}[:0]}) {
		t.Error("an instruction behind the code ends it")
	}
}

func TestP06EndsWithEveryOperation(t *testing.T) {
	for _, op := range append(p05Operations(), p05OtherOperations()...) {
		for _, code := range [][]impl.Instr{{{Op: op}}, {{Op: 10}, {Op: op}}} {
			if got := impl.Ends(impl.Method{Name: "get", Code: code}); got != (op == 10) {
				t.Errorf("Ends of %+v is %v", code, got)
			}
		}
	}
}

// p06DifferentScripts returns scripts of which each differs from the first one, and from every other one, in at least one place.
func p06DifferentScripts() []impl.Script {
	one := func() impl.Script {
		return impl.Script{Name: "cell", Methods: []impl.Method{
			{Name: "get", Code: []impl.Instr{{Op: 6, A: 1, B: 2, C: 3, D: 4, Name: "put"}, {Op: 10, A: 1}}},
			{Name: "set", Code: []impl.Instr{{Op: 2, A: 3, B: 1}}},
		}}
	}
	list := []impl.Script{one()}
	change := func(edit func(s *impl.Script)) {
		s := one()
		edit(&s)
		list = append(list, s)
	}
	change(func(s *impl.Script) { s.Name = "cells" })
	change(func(s *impl.Script) { s.Name = "Cell" })
	change(func(s *impl.Script) { s.Name = "" })
	change(func(s *impl.Script) { s.Methods[0].Name = "gets" })
	change(func(s *impl.Script) { s.Methods[1].Name = "" })
	change(func(s *impl.Script) { s.Methods[0].Name, s.Methods[1].Name = "set", "get" })
	change(func(s *impl.Script) { s.Methods[0].Code[0].Op = 7 })
	change(func(s *impl.Script) { s.Methods[0].Code[0].A = 0 })
	change(func(s *impl.Script) { s.Methods[0].Code[0].B = 0 })
	change(func(s *impl.Script) { s.Methods[0].Code[0].C = 0 })
	change(func(s *impl.Script) { s.Methods[0].Code[0].D = 0 })
	change(func(s *impl.Script) { s.Methods[0].Code[0].Name = "" })
	change(func(s *impl.Script) { s.Methods[0].Code[1].A = 2 })
	change(func(s *impl.Script) { s.Methods[1].Code[0].B = 1<<32 + 1 })
	change(func(s *impl.Script) { slices.Reverse(s.Methods[0].Code) })
	change(func(s *impl.Script) { slices.Reverse(s.Methods) })
	change(func(s *impl.Script) { s.Methods[0].Code = s.Methods[0].Code[:1] })
	change(func(s *impl.Script) { s.Methods[0].Code = nil })
	change(func(s *impl.Script) { s.Methods[1].Code = append(s.Methods[1].Code, impl.Instr{}) })
	change(func(s *impl.Script) { s.Methods[1].Code = append(s.Methods[1].Code, s.Methods[1].Code...) })
	change(func(s *impl.Script) { s.Methods = s.Methods[:1] })
	change(func(s *impl.Script) { s.Methods = s.Methods[1:] })
	change(func(s *impl.Script) { s.Methods = nil })
	change(func(s *impl.Script) { s.Methods = append(s.Methods, impl.Method{}) })
	change(func(s *impl.Script) { s.Methods = append(s.Methods, s.Methods[0]) })
	return append(list, impl.Script{}, impl.Script{Methods: make([]impl.Method, 1)}, impl.Script{Methods: make([]impl.Method, 2)})
}

func TestP06EqualScripts(t *testing.T) {
	as, bs := p06DifferentScripts(), p06DifferentScripts()
	for i, a := range as {
		for j, b := range bs {
			if got := impl.EqualScripts(a, b); got != (i == j) {
				t.Errorf("EqualScripts(%+v, %+v) = %v", a, b, got)
			}
		}
	}
}

func TestP06EqualScriptsWithNilAndEmptySlices(t *testing.T) {
	withCode := func(code []impl.Instr) impl.Script {
		return impl.Script{Name: "cell", Methods: []impl.Method{{Name: "get", Code: code}}}
	}
	pairs := [][2]impl.Script{
		{{Name: "cell"}, {Name: "cell", Methods: []impl.Method{}}}, {{}, {Methods: p06Methods("get")[:0]}},
		{withCode(nil), withCode([]impl.Instr{})}, {withCode(nil), withCode(p06Code(2)[:0])}, {withCode(p06Code(2)), withCode(p06Code(5)[:2])},
	}
	for _, p := range pairs {
		if !impl.EqualScripts(p[0], p[1]) || !impl.EqualScripts(p[1], p[0]) {
			t.Errorf("%+v and %+v are not equal", p[0], p[1])
		}
	}
	if impl.EqualScripts(withCode(nil), impl.Script{Name: "cell"}) || impl.EqualScripts(impl.Script{Name: "cell"}, withCode(nil)) {
		t.Error("a method without code is no method at all")
	}
}

func TestP06NothingIsChanged(t *testing.T) {
	libraries := [][]impl.Script{p06SomeScripts(), p06Library("f", "e", "d", "c", "b", "a"), p06Library("b", "a", "b", "")}
	again := [][]impl.Script{p06SomeScripts(), p06Library("f", "e", "d", "c", "b", "a"), p06Library("b", "a", "b", "")}
	for i, l := range libraries {
		impl.IsLibrary(l)
		for place, s := range l {
			impl.IsScript(s)
			impl.FindScript(l, s.Name)
			impl.EqualScripts(s, l[0])
			for _, m := range s.Methods {
				impl.IsMethod(m)
				impl.Ends(m)
				impl.MethodOf(l, place, m.Name)
			}
		}
		if !slices.EqualFunc(l, again[i], impl.EqualScripts) {
			t.Errorf("%+v has become %+v", again[i], l)
		}
	}
}
