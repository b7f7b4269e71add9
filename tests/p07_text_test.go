package tests

import (
	"math"
	"regexp"
	"slices"
	"strconv"
	"strings"
	"testing"

	"loop.example/g00591/impl"
)

type p07Pair struct {
	text  string
	instr impl.Instr
}

// p07Pairs has every form at both ends of each field, with C and D at -1, with C alone and with both.
func p07Pairs() []p07Pair {
	return []p07Pair{
		{"const 0 0", impl.Instr{Op: 1}}, {"const 7 0", impl.Instr{Op: 1, A: 7}}, {"const 0 999999", impl.Instr{Op: 1, B: 999999}},
		{"const 3 17", impl.Instr{Op: 1, A: 3, B: 17}}, {"const 7 100000", impl.Instr{Op: 1, A: 7, B: 100000}}, {"const 1 10", impl.Instr{Op: 1, A: 1, B: 10}},
		{"arg 0 0", impl.Instr{Op: 2}}, {"arg 7 1", impl.Instr{Op: 2, A: 7, B: 1}}, {"arg 7 0", impl.Instr{Op: 2, A: 7}}, {"arg 0 1", impl.Instr{Op: 2, B: 1}},
		{"slot 0 0", impl.Instr{Op: 3}}, {"slot 7 2", impl.Instr{Op: 3, A: 7, B: 2}}, {"slot 7 0", impl.Instr{Op: 3, A: 7}}, {"slot 0 2", impl.Instr{Op: 3, B: 2}},
		{"self 0", impl.Instr{Op: 4}}, {"self 7", impl.Instr{Op: 4, A: 7}},
		{"add 0 0 0", impl.Instr{Op: 5}}, {"add 7 0 0", impl.Instr{Op: 5, A: 7}}, {"add 0 7 0", impl.Instr{Op: 5, B: 7}}, {"add 0 0 7", impl.Instr{Op: 5, C: 7}},
		{"add 7 7 7", impl.Instr{Op: 5, A: 7, B: 7, C: 7}}, {"add 1 2 3", impl.Instr{Op: 5, A: 1, B: 2, C: 3}},
		{"send 0 0 a", impl.Instr{Op: 6, C: -1, D: -1, Name: "a"}}, {"send 7 0 abcdef", impl.Instr{Op: 6, A: 7, C: -1, D: -1, Name: "abcdef"}},
		{"send 0 7 z", impl.Instr{Op: 6, B: 7, C: -1, D: -1, Name: "z"}}, {"send 1 3 get 2", impl.Instr{Op: 6, A: 1, B: 3, C: 2, D: -1, Name: "get"}},
		{"send 0 0 get 0", impl.Instr{Op: 6, D: -1, Name: "get"}}, {"send 7 7 get 7", impl.Instr{Op: 6, A: 7, B: 7, C: 7, D: -1, Name: "get"}},
		{"send 0 1 go 2 3", impl.Instr{Op: 6, B: 1, C: 2, D: 3, Name: "go"}}, {"send 0 0 get 0 0", impl.Instr{Op: 6, Name: "get"}},
		{"send 0 0 get 7 0", impl.Instr{Op: 6, C: 7, Name: "get"}}, {"send 0 0 get 0 7", impl.Instr{Op: 6, D: 7, Name: "get"}},
		{"send 7 7 zzzzzz 7 7", impl.Instr{Op: 6, A: 7, B: 7, C: 7, D: 7, Name: "zzzzzz"}}, {"send 1 2 send 3 4", impl.Instr{Op: 6, A: 1, B: 2, C: 3, D: 4, Name: "send"}},
		{"new 0 a", impl.Instr{Op: 7, C: -1, D: -1, Name: "a"}}, {"new 7 abcdef", impl.Instr{Op: 7, A: 7, C: -1, D: -1, Name: "abcdef"}},
		{"new 4 cell 1", impl.Instr{Op: 7, A: 4, C: 1, D: -1, Name: "cell"}}, {"new 0 cell 0", impl.Instr{Op: 7, D: -1, Name: "cell"}}, {"new 7 cell 7", impl.Instr{Op: 7, A: 7, C: 7, D: -1, Name: "cell"}},
		{"new 4 cell 1 2", impl.Instr{Op: 7, A: 4, C: 1, D: 2, Name: "cell"}}, {"new 0 cell 0 0", impl.Instr{Op: 7, Name: "cell"}}, {"new 0 cell 7 0", impl.Instr{Op: 7, C: 7, Name: "cell"}},
		{"new 0 cell 0 7", impl.Instr{Op: 7, D: 7, Name: "cell"}}, {"new 7 script 7 7", impl.Instr{Op: 7, A: 7, C: 7, D: 7, Name: "script"}},
		{"set 0 0", impl.Instr{Op: 8}}, {"set 2 0", impl.Instr{Op: 8, A: 2}}, {"set 0 7", impl.Instr{Op: 8, B: 7}}, {"set 2 7", impl.Instr{Op: 8, A: 2, B: 7}},
		{"skip 0 1", impl.Instr{Op: 9, B: 1}}, {"skip 7 1", impl.Instr{Op: 9, A: 7, B: 1}}, {"skip 0 12", impl.Instr{Op: 9, B: 12}}, {"skip 7 12", impl.Instr{Op: 9, A: 7, B: 12}},
		{"return 0", impl.Instr{Op: 10}}, {"return 7", impl.Instr{Op: 10, A: 7}},
	}
}

// p07InstrTexts is the chapter's rule for texts of instructions, written in another way than the program's.
var p07InstrTexts = regexp.MustCompile(`^(const [0-7] (0|[1-9][0-9]{0,5})|arg [0-7] [01]|slot [0-7] [0-2]|self [0-7]|add [0-7] [0-7] [0-7]` +
	`|send [0-7] [0-7] [a-z]{1,6}( [0-7]( [0-7])?)?|new [0-7] [a-z]{1,6}( [0-7]( [0-7])?)?|set [0-2] [0-7]|skip [0-7] ([1-9]|1[0-2])|return [0-7])$`)

var p07Heads = regexp.MustCompile(`^(script|method) ([a-z]{1,6})$`)

// p07IsLibraryText is the chapter's rule for texts of libraries; it goes from line to line and never formats.
func p07IsLibraryText(s string) bool {
	if len(s) > 4000 || s != "" && !strings.HasSuffix(s, "\n") {
		return false
	}
	scripts, methods, instrs := map[string]bool{}, map[string]bool{}, 0
	for line := range strings.Lines(s) {
		line = strings.TrimSuffix(line, "\n")
		head := p07Heads.FindStringSubmatch(line)
		switch {
		case head != nil && head[1] == "script":
			if scripts[head[2]] || len(scripts) == 6 {
				return false
			}
			scripts[head[2]], methods = true, map[string]bool{}
		case head != nil:
			if len(scripts) == 0 || methods[head[2]] || len(methods) == 4 {
				return false
			}
			methods[head[2]], instrs = true, 0
		default:
			if len(methods) == 0 || instrs == 12 || !p07InstrTexts.MatchString(line) {
				return false
			}
			instrs++
		}
	}
	return true
}

// p07InstrText writes an instruction that is valid, field by field.
func p07InstrText(x impl.Instr) string {
	words := []string{[]string{"const", "arg", "slot", "self", "add", "send", "new", "set", "skip", "return"}[x.Op-1], strconv.Itoa(x.A)}
	if x.Op != p05Self && x.Op != p05Return && x.Op != p05New {
		words = append(words, strconv.Itoa(x.B))
	}
	if x.Op == p05Send || x.Op == p05New {
		words = append(words, x.Name)
	}
	if x.Op == p05Add || (x.Op == p05Send || x.Op == p05New) && x.C != -1 {
		words = append(words, strconv.Itoa(x.C))
	}
	if (x.Op == p05Send || x.Op == p05New) && x.D != -1 {
		words = append(words, strconv.Itoa(x.D))
	}
	return strings.Join(words, " ")
}

func p07EqualLibraries(a, b []impl.Script) bool {
	return slices.EqualFunc(a, b, impl.EqualScripts)
}

// p07CheckInstr holds ParseInstr of any text against the rule for texts, and against FormatInstr.
func p07CheckInstr(t *testing.T, s string) {
	t.Helper()
	x, ok := impl.ParseInstr(s)
	if ok != p07InstrTexts.MatchString(s) {
		t.Errorf("ParseInstr(%q) = %+v, %v", s, x, ok)
	}
	if ok && (!impl.IsInstr(x) || p07InstrText(x) != s || impl.FormatInstr(x) != s) {
		t.Errorf("ParseInstr(%q) = %+v, which is written %q", s, x, impl.FormatInstr(x))
	}
	if !ok && x != (impl.Instr{}) {
		t.Errorf("there is no instruction %q, but it is %+v", s, x)
	}
}

// p07CheckLibrary holds ParseLibrary of any text against the rule for texts, and against FormatLibrary.
func p07CheckLibrary(t *testing.T, s string) {
	t.Helper()
	l, ok := impl.ParseLibrary(s)
	if ok != p07IsLibraryText(s) {
		t.Errorf("of %q, ParseLibrary is %+v, %v", s, l, ok)
	}
	if ok && (!impl.IsLibrary(l) || impl.FormatLibrary(l) != s) {
		t.Errorf("of %q, ParseLibrary is %+v, which is written %q", s, l, impl.FormatLibrary(l))
	}
	if !ok && len(l) != 0 {
		t.Errorf("%q is no library, but has the scripts %+v", s, l)
	}
}

func TestP07Constants(t *testing.T) {
	if impl.MaxText != 4000 {
		t.Error(impl.MaxText)
	}
}

func TestP07FormatInstr(t *testing.T) {
	for _, p := range p07Pairs() {
		if got := impl.FormatInstr(p.instr); got != p.text {
			t.Errorf("FormatInstr(%+v) = %q, not %q", p.instr, got, p.text)
		}
	}
}

func TestP07FormatInstrOfInvalidInstructions(t *testing.T) {
	list := append(p06NoInstrs(), impl.Instr{Op: 6, C: -1, D: 3, Name: "get"}, impl.Instr{Op: 7, C: -1, D: 0, Name: "cell"}, impl.Instr{Op: 5, C: -1}, impl.Instr{Op: 1, A: -1})
	for _, f := range p05Forms() {
		for _, op := range p05OtherOperations() {
			x := f.sample
			x.Op = op
			list = append(list, x)
		}
		for _, name := range p05NotNames() {
			x := f.sample
			x.Name = name
			if f.named || name != "" {
				list = append(list, x)
			}
		}
	}
	for _, x := range list {
		if got := impl.FormatInstr(x); got != "" {
			t.Errorf("FormatInstr(%+v) = %q", x, got)
		}
	}
}

func TestP07InstructionsAreParsedFromTheirText(t *testing.T) {
	for _, p := range p07Pairs() {
		if x, ok := impl.ParseInstr(p.text); !ok || x != p.instr {
			t.Errorf("ParseInstr(%q) = %+v, %v", p.text, x, ok)
		}
	}
	p05Every(func(x impl.Instr) {
		text := impl.FormatInstr(x)
		if !impl.IsInstr(x) {
			if text != "" {
				t.Errorf("FormatInstr(%+v) = %q", x, text)
			}
			return
		}
		if text != p07InstrText(x) {
			t.Errorf("FormatInstr(%+v) = %q", x, text)
		}
		if y, ok := impl.ParseInstr(text); !ok || y != x {
			t.Errorf("ParseInstr(%q) = %+v, %v", text, y, ok)
		}
	})
}

func TestP07ParseInstrOfEachNumber(t *testing.T) {
	for n := -20; n <= 120; n++ {
		word := strconv.Itoa(n)
		for _, s := range []string{
			"const N 0", "const 0 N", "arg N 0", "arg 0 N", "slot N 0", "slot 0 N", "self N", "add N 0 0", "add 0 N 0", "add 0 0 N", "set N 0", "set 0 N", "skip N 1", "skip 0 N", "return N",
			"send N 0 get", "send 0 N get", "send 0 0 get N", "send N 0 get 1 2", "send 0 N get 1 2", "send 0 0 get N 2", "send 0 0 get 1 N", "new N cell", "new 0 cell N", "new N cell 1 2", "new 0 cell N 2", "new 0 cell 1 N",
		} {
			p07CheckInstr(t, strings.ReplaceAll(s, "N", word))
		}
	}
	for n := 0; n <= 999999; n += 1 + n/7 {
		if x, ok := impl.ParseInstr("const 5 " + strconv.Itoa(n)); !ok || x != (impl.Instr{Op: 1, A: 5, B: n}) {
			t.Errorf("const 5 %d is %+v, %v", n, x, ok)
		}
	}
}

func TestP07ParseInstrRejects(t *testing.T) {
	texts := []string{
		"", " ", "  ", "\n", "\x00", "0", "1", "-1", "1 2", "get", "N", "A", "AB",
		// words too few
		"const", "const 1", "arg", "arg 1", "slot", "slot 1", "self", "add", "add 1", "add 1 2", "send", "send 1", "send 1 3", "new", "new 4", "set", "set 1", "skip", "skip 1", "return",
		"send get", "send 1 get", "send 1 get 2", "send get 1 2", "new cell", "new cell 1 2",
		// words too many
		"const 1 2 3", "arg 1 1 0", "slot 1 2 0", "self 3 3", "add 1 2 3 4", "send 1 3 get 2 3 4", "send 1 3 get 2 3 4 5 6 7 8 9", "new 4 cell 1 2 3", "new 4 cell 1 2 3 4 5", "set 1 2 3", "skip 1 2 3", "return 7 0",
		"const 1 2 get", "self 3 get", "return 7 -1", "add 1 2 3 -1", "send 1 3 get 2 3 -1", "send 1 3 get 2 3 get", "send 1 3 get set", "new 4 cell 1 2 -1", "new 4 3 cell", "new 4 0 cell", "new 4 cell cell", "new 4 cell 1 cell",
		"self 3 self 3", "self 3 return 3", "const 0 0 0", "self 0 0", "return 0 0 0 0 0",
		// spaces
		" self 3", "self 3 ", "self  3", "  self 3", "self 3  ", " self 3 ", "send 1 3  get 2", "send 1 3 get  2", "send 1 3 get 2 ", "send 1 3 get ", "new 4 cell ", "new 4  cell", "add 1 2 ", "add 1  3", "self\t3", "self\v3", "self\f3", "self\r3", "self\u00a03", "self\u20033", "self\x003", "self3", "self,3",
		// operations that are none
		"fly 1", "Self 3", "SELF 3", "sel 3", "selff 3", "self: 3", "script a", "method b", "sub 1 2 3", "4 3", "const1 2", " 3", "ſelf 3", "ｓelf 3", "returns 1", "retur 1", "skip1 2",
		// numbers
		"self 03", "self 00", "const 0 007", "const 00 7", "const 0 0999999", "skip 1 01", "send 01 3 get", "send 1 03 get", "send 1 3 get 02", "send 1 3 get 2 03", "new 04 cell",
		"self +3", "self -3", "self -0", "self - 3", "const 0 +5", "const 0 -5", "const 0 1e3", "const 0 0x1", "const 0 1_000", "const 0 1,000", "const 0 1.0", "self 3.", "self ３", "self ٣", "self three", "self a",
		"const 0 1000000", "const 0 9999999", "const 0 1000000000000", "const 0 1000000000001", "const 0 18446744073709551617", "const 8 0", "self 8", "self 10", "self 4294967299", "self 18446744073709551619", "self 99999999999999999999999999",
		"arg 0 2", "arg 8 0", "slot 0 3", "slot 8 0", "add 8 0 0", "add 0 8 0", "add 0 0 8", "set 3 0", "set 0 8", "skip 0 0", "skip 0 13", "skip 8 1", "return 8", "send 8 0 get", "send 0 8 get", "send 0 0 get 8", "send 0 0 get 0 8", "new 8 cell", "new 0 cell 8", "new 0 cell 0 8",
		// -1 written out
		"send 1 3 get -1", "send 1 3 get -1 -1", "send 1 3 get 2 -1", "send 1 3 get -1 2", "new 4 cell -1", "new 4 cell -1 -1", "new 4 cell 1 -1", "new 4 cell -1 1", "add 1 2 -1", "self -1", "const 0 -1", "send -1 3 get", "send 1 -1 get",
		// names that are none
		"send 1 3 Get", "send 1 3 GET", "send 1 3 get1", "send 1 3 7", "send 1 3 abcdefg", "send 1 3 ", "send 1 3  2", "send 1 3 g_t 2", "send 1 3 gét", "new 4 Cell", "new 4 abcdefg", "new 4 ", "new 4 7", "new 4  1 2", "new 4 c-l 1 2", "new 4 \"cell\"",
		// newlines, and bytes that are no ASCII
		"self 3\n", "\nself 3", "self\n3", "self 3\r\n", "self 3\r", "self 3\x00", "\x00self 3", "send 1 3 get\n", "send 1 3\nget", "self 3\nself 4", "\ufeffself 3", "self 3\u200b", "self \xff", "\xffself 3", "self 3\x80", "self\x803", "send 1 3 g\xc3t", "send 1 3 \xe7et", "self 3é", "é", "\xff", "send 1 3 get \ufffd",
	}
	for _, s := range texts {
		if x, ok := impl.ParseInstr(s); ok || x != (impl.Instr{}) {
			t.Errorf("ParseInstr(%q) = %+v, %v", s, x, ok)
		}
	}
}

func TestP07ParseInstrWithOtherWords(t *testing.T) {
	words := []string{"", "0", "1", "3", "7", "8", "-1", "03", "+1", "get", "Get", "self", "abcdefg", "é", "\n"}
	for _, p := range p07Pairs() {
		own := strings.Split(p.text, " ")
		for place := range own {
			p07CheckInstr(t, strings.Join(slices.Delete(slices.Clone(own), place, place+1), " "))
			for _, other := range words {
				p07CheckInstr(t, strings.Join(slices.Replace(slices.Clone(own), place, place+1, other), " "))
			}
		}
		for place := range len(own) + 1 {
			for _, more := range words {
				p07CheckInstr(t, strings.Join(slices.Insert(slices.Clone(own), place, more), " "))
				for _, last := range words {
					p07CheckInstr(t, strings.Join(slices.Insert(slices.Clone(own), place, more, last), " "))
				}
			}
		}
		// Words that are too many are too many however often they come.
		for _, more := range []string{" ", " 0", " 7", " get", " -1", " " + p.text} {
			for _, times := range []int{3, 4, 8, 256} {
				p07CheckInstr(t, p.text+strings.Repeat(more, times))
			}
		}
	}
}

func TestP07ParseInstrWithOtherBytes(t *testing.T) {
	for _, s := range []string{"const 3 17", "arg 7 1", "slot 0 2", "self 3", "add 1 2 3", "send 1 3 get", "send 1 3 get 2", "send 0 1 go 2 3", "new 4 cell", "new 4 cell 1", "new 4 cell 1 2", "set 2 7", "skip 1 12", "return 7"} {
		for place := range len(s) + 1 {
			for c := range 256 {
				p07CheckInstr(t, s[:place]+string([]byte{byte(c)})+s[place:])
				if place < len(s) {
					p07CheckInstr(t, s[:place]+string([]byte{byte(c)})+s[place+1:])
				}
			}
			p07CheckInstr(t, s[:place])
			p07CheckInstr(t, s[place:])
		}
	}
}

func p07Cell() impl.Script {
	return impl.Script{Name: "cell", Methods: []impl.Method{
		{Name: "get", Code: []impl.Instr{{Op: 3, B: 1}, {Op: 10}}},
		{Name: "none"},
		{Name: "go", Code: []impl.Instr{{Op: 4, A: 3}, {Op: 6, A: 1, B: 3, C: 2, D: -1, Name: "get"}, {Op: 7, A: 4, C: 1, D: 2, Name: "cell"}, {Op: 9, A: 1, B: 2}}},
	}}
}

const p07CellText = "script cell\nmethod get\nslot 0 1\nreturn 0\nmethod none\nmethod go\nself 3\nsend 1 3 get 2\nnew 4 cell 1 2\nskip 1 2\n"

func TestP07FormatScript(t *testing.T) {
	end := []impl.Instr{{Op: 10}}
	cases := []struct {
		s    impl.Script
		want string
	}{
		{p07Cell(), p07CellText}, {impl.Script{Name: "a"}, "script a\n"}, {impl.Script{Name: "abcdef", Methods: []impl.Method{}}, "script abcdef\n"},
		{impl.Script{Name: "a", Methods: []impl.Method{{Name: "b"}}}, "script a\nmethod b\n"}, {impl.Script{Name: "a", Methods: []impl.Method{{Name: "a", Code: []impl.Instr{}}}}, "script a\nmethod a\n"},
		{impl.Script{Name: "a", Methods: []impl.Method{{Name: "b", Code: end}}}, "script a\nmethod b\nreturn 0\n"},
		{impl.Script{Name: "a", Methods: []impl.Method{{Name: "c", Code: end}, {Name: "b"}}}, "script a\nmethod c\nreturn 0\nmethod b\n"},
		{impl.Script{Name: "script", Methods: []impl.Method{{Name: "method"}, {Name: "script", Code: end}, {Name: "self"}}}, "script script\nmethod method\nmethod script\nreturn 0\nmethod self\n"},
		{impl.Script{Name: "z", Methods: p06Methods("d", "c", "b", "a")}, "script z\nmethod d\nconst 1 0\nreturn 1\nmethod c\nconst 1 1\nreturn 1\nmethod b\nconst 1 2\nreturn 1\nmethod a\nconst 1 3\nreturn 1\n"},
		{impl.Script{Name: "a", Methods: []impl.Method{{Name: "b", Code: slices.Repeat(end, 12)}}}, "script a\nmethod b\n" + strings.Repeat("return 0\n", 12)},
	}
	for _, c := range cases {
		if got := impl.FormatScript(c.s); got != c.want {
			t.Errorf("FormatScript(%+v) = %q", c.s, got)
		}
		if got := impl.FormatLibrary([]impl.Script{c.s}); got != c.want {
			t.Errorf("FormatLibrary of %+v alone is %q", c.s, got)
		}
		if l, ok := impl.ParseLibrary(c.want); !ok || !p07EqualLibraries(l, []impl.Script{c.s}) {
			t.Errorf("of %q, ParseLibrary is %+v, %v", c.want, l, ok)
		}
	}
}

func p07NoScripts() []impl.Script {
	list := []impl.Script{
		{}, {Methods: p06Methods("get")}, {Name: "cell", Methods: p06Methods("get", "get")}, {Name: "cell", Methods: p06Methods("a", "b", "c", "d", "e")},
		{Name: "cell", Methods: p06Methods("a", "")}, {Name: "cell", Methods: p06Methods("A", "b")}, {Name: "cell", Methods: make([]impl.Method, 1)},
		{Name: "cell", Methods: []impl.Method{{Name: "get", Code: p06Code(13)}}}, {Name: "cell", Methods: []impl.Method{{Name: "a"}, {Name: "get", Code: make([]impl.Instr, 1)}}},
	}
	for _, name := range p05NotNames() {
		list = append(list, impl.Script{Name: name, Methods: p06Methods("get")})
	}
	for _, x := range p06NoInstrs() {
		list = append(list, impl.Script{Name: "cell", Methods: []impl.Method{{Name: "get", Code: []impl.Instr{{Op: 4}, x, {Op: 10}}}}})
	}
	return list
}

func TestP07FormatScriptAndLibraryOfWhatIsNotValid(t *testing.T) {
	for _, s := range p07NoScripts() {
		if got := impl.FormatScript(s); got != "" {
			t.Errorf("FormatScript(%+v) = %q", s, got)
		}
		for place := range 4 {
			l := slices.Insert(p06Library("a", "b", "c"), place, s)
			if got := impl.FormatLibrary(l); got != "" {
				t.Errorf("with %+v at %d, FormatLibrary is %q", s, place, got)
			}
		}
	}
	for _, names := range []string{"cell cell", "a b a", "a b c d e f g", "a a a a a a a"} {
		if got := impl.FormatLibrary(p06Library(strings.Fields(names)...)); got != "" {
			t.Errorf("of %s, FormatLibrary is %q", names, got)
		}
	}
}

func TestP07FormatLibrary(t *testing.T) {
	if impl.FormatLibrary(nil) != "" || impl.FormatLibrary([]impl.Script{}) != "" {
		t.Error("the library without scripts")
	}
	bare := []impl.Script{{Name: "c"}, {Name: "a"}, {Name: "b"}}
	if got := impl.FormatLibrary(bare); got != "script c\nscript a\nscript b\n" {
		t.Errorf("without methods: %q", got)
	}
	l := []impl.Script{{Name: "first"}, p07Cell(), {Name: "last", Methods: []impl.Method{{Name: "get"}}}}
	if got := impl.FormatLibrary(l); got != "script first\n"+p07CellText+"script last\nmethod get\n" {
		t.Errorf("with methods: %q", got)
	}
	for length := range 7 {
		l := p06Library(strings.Fields("f e d c b a")[:length]...)
		want := ""
		for _, s := range l {
			want += impl.FormatScript(s)
		}
		if got := impl.FormatLibrary(l); got != want {
			t.Errorf("of %d scripts, FormatLibrary is %q", length, got)
		}
	}
}

// p07Sized returns a library with the most scripts, methods and instructions, whose text has so many bytes: 3150 to 4590.
func p07Sized(length int) []impl.Script {
	l := []impl.Script{}
	rest := length - 6*len("script a\n") - 24*len("method a\n") - 288*len("const 0 9\n")
	for i := range 6 {
		s := impl.Script{Name: string(rune('a' + i))}
		for j := range 4 {
			m := impl.Method{Name: string(rune('a' + j))}
			for k := range 12 {
				more := min(rest, 5)
				rest -= more
				m.Code = append(m.Code, impl.Instr{Op: 1, A: k % 8, B: int(math.Pow10(more+1)) - 1})
			}
			s.Methods = append(s.Methods, m)
		}
		l = append(l, s)
	}
	return l
}

func TestP07ParseLibraryAtMaxText(t *testing.T) {
	for _, length := range []int{3150, 3500, 3998, 3999, 4000, 4001, 4002, 4256, 4590} {
		l := p07Sized(length)
		text := impl.FormatLibrary(l)
		if len(text) != length {
			t.Fatalf("the text has %d bytes, not %d", len(text), length)
		}
		got, ok := impl.ParseLibrary(text)
		if length <= 4000 && (!ok || !p07EqualLibraries(got, l)) {
			t.Errorf("a text of %d bytes is not parsed", length)
		}
		if length > 4000 && (ok || len(got) != 0) {
			t.Errorf("a text of %d bytes is parsed", length)
		}
	}
	full := impl.FormatLibrary(p07Sized(4000))
	for _, s := range []string{
		full + "\n", full + " ", full + "script g\n", full + full, full + "\x00", "\n" + full, full[1:], full[:3999], full[:3999] + " ", "\n" + full[:3999], "é" + full[2:], full[:3998] + "é",
		strings.Repeat("a", 4000), strings.Repeat("\n", 4000), strings.Repeat("\n", 4001), strings.Repeat("é", 2000), strings.Repeat("é", 4000), strings.Repeat("script a\n", 1<<18), strings.Repeat(" ", 1<<22),
	} {
		p07CheckLibrary(t, s)
		if l, ok := impl.ParseLibrary(s); ok || len(l) != 0 {
			t.Errorf("a text of %d bytes that is none is parsed", len(s))
		}
	}
}

func TestP07ParseLibraryRejects(t *testing.T) {
	texts := []string{
		"\n", "\n\n", " ", " \n", "\x00", "a", "a\n", "script", "script\n", "script \n", "script  a\n", "script a b\n", "script a \n", " script a\n", "script\ta\n", "Script a\n", "scripta\n", "script a\r\n", "script a\x00\n",
		"script A\n", "script a1\n", "script abcdefg\n", "script 7\n", "script -\n", "script é\n", "scripts a\n", "script a;\n", "script a\vscript b\n", "script a\u2028script b\u2028",
		// without the last newline
		"script a", "script a\nscript b", "script a\nmethod b", "script a\nmethod b\nself 1", "script a\nmethod b\nself 1\nreturn 1",
		// an empty line
		"\nscript a\n", "script a\n\n", "script a\n\nscript b\n", "script a\n\nmethod b\n", "script a\nmethod b\n\nself 1\n", "script a\nmethod b\nself 1\n\n", "script a\nmethod b\nself 1\n \n",
		// lines that have no place, or are none
		"self 1\n", "method a\n", "method a\nscript a\n", "self 1\nscript a\n", "method a\nself 1\nscript a\nmethod a\nself 1\n", "script a\nself 1\n", "script a\nself 1\nmethod b\n", "script a\nmethod b\nscript c\nself 1\n", "script a\nmethod b\nself 1\nscript c\nself 1\n",
		"script a\nmethod b\nself 1\nmore\n", "script a\nmethod b\nself 8\n", "script a\nmethod b\nself 1 1\n", "script a\nmethod b\nself 1 \n", "script a\nmethod b\n self 1\n", "script a\nmethod b\nself 01\n", "script a\nmethod b\nsend 1 3 get 2 3 4\n", "script a\nmethod b\nsend 1 3 get -1\n",
		"script a\nmethod b\nfly 1\nself 1\n", "script a\nmethod b\nself 1self 2\n", "script a\nmethod b self 1\n", "script a method b\n", "script a\nmethod\n", "script a\nmethod \n", "script a\nmethod B\n", "script a\nmethod b c\n", "script a\nmethod  b\n", "script a\nmethod abcdefg\n", "script a\nMethod b\n", "script a\n method b\n", "script a\nmethod b \n",
		// the same name twice
		"script a\nscript a\n", "script a\nscript b\nscript a\n", "script a\nmethod b\nmethod b\n", "script a\nmethod b\nself 1\nmethod c\nmethod b\nself 1\n", "script a\nscript b\nmethod c\nmethod c\n", "script a\nmethod b\nscript a\nmethod c\n",
		// bytes that are no ASCII
		"é\n", "\xff\n", "\xff", "script \xff\n", "script a\xc3\n", "script a\n\xff\n", "script a\nmethod b\xff\n", "script a\nmethod b\nself \xff\n", "\ufeffscript a\n", "script a\n\ufeff", "script a\nmethod b\nself ١\n", "ｓcript a\n", "script ａ\n", "script a\u0085", "script a\n\x80",
	}
	for _, s := range texts {
		p07CheckLibrary(t, s)
		if l, ok := impl.ParseLibrary(s); ok || len(l) != 0 {
			t.Errorf("of %q, ParseLibrary is %+v, %v", s, l, ok)
		}
	}
}

func TestP07ParseLibraryOfTheEmptyText(t *testing.T) {
	if l, ok := impl.ParseLibrary(""); !ok || len(l) != 0 {
		t.Errorf("of the empty text, ParseLibrary is %+v, %v", l, ok)
	}
}

func TestP07ParseLibraryByNumbers(t *testing.T) {
	names := strings.Fields("a b c d e f g h")
	for scripts := range 9 {
		s := ""
		for _, name := range names[:scripts] {
			s += "script " + name + "\nmethod get\n"
		}
		if l, ok := impl.ParseLibrary(s); ok != (scripts <= 6) || ok && len(l) != scripts || !ok && len(l) != 0 {
			t.Errorf("of %d scripts, ParseLibrary is %+v, %v", scripts, l, ok)
		}
	}
	for methods := range 9 {
		s := "script a\nmethod x\nscript b\n"
		for _, name := range names[:methods] {
			s += "method " + name + "\nself 1\n"
		}
		s += "script c\nmethod y\n"
		l, ok := impl.ParseLibrary(s)
		if ok != (methods <= 4) || !ok && len(l) != 0 || ok && (len(l) != 3 || len(l[0].Methods) != 1 || len(l[1].Methods) != methods || len(l[2].Methods) != 1) {
			t.Errorf("of %d methods, ParseLibrary is %+v, %v", methods, l, ok)
		}
	}
	for code := range 30 {
		s := "script a\nmethod x\nself 1\nmethod y\n" + strings.Repeat("self 2\n", code) + "method z\nself 3\n"
		l, ok := impl.ParseLibrary(s)
		if ok != (code <= 12) || !ok && len(l) != 0 || ok && (len(l[0].Methods[0].Code) != 1 || len(l[0].Methods[1].Code) != code || len(l[0].Methods[2].Code) != 1) {
			t.Errorf("of %d instructions, ParseLibrary is %+v, %v", code, l, ok)
		}
	}
}

func TestP07ParseLibraryOfManyLists(t *testing.T) {
	lines := []string{"script a\n", "script b\n", "method a\n", "method b\n", "self 1\n", "return 0\n", "\n", "self 8\n", "script c"}
	p06EachNames(lines, 5, func(list []string) {
		p07CheckLibrary(t, strings.Join(list, ""))
	})
}

func TestP07ParseLibraryWithOtherBytes(t *testing.T) {
	for _, s := range []string{p07CellText, "script a\nscript b\n", "script a\nmethod c\nmethod d\nreturn 7\nscript b\nmethod c\nnew 1 a 2\n"} {
		for place := range len(s) + 1 {
			for c := range 256 {
				p07CheckLibrary(t, s[:place]+string([]byte{byte(c)})+s[place:])
				if place < len(s) {
					p07CheckLibrary(t, s[:place]+string([]byte{byte(c)})+s[place+1:])
				}
			}
			p07CheckLibrary(t, s[:place])
			p07CheckLibrary(t, s[place:])
		}
		lines := slices.Collect(strings.Lines(s))
		for i := range lines {
			p07CheckLibrary(t, strings.Join(slices.Delete(slices.Clone(lines), i, i+1), ""))
			for j := range len(lines) + 1 {
				p07CheckLibrary(t, strings.Join(slices.Insert(slices.Clone(lines), j, lines[i]), ""))
			}
		}
	}
}

// p07Libraries returns valid libraries: with every form, and with scripts and methods of many sizes.
func p07Libraries() [][]impl.Script {
	list := [][]impl.Script{nil, {}, {p07Cell()}, {{Name: "first"}, p07Cell(), {Name: "last"}}, p07Sized(3150), p07Sized(4000)}
	pairs := p07Pairs()
	for first := 0; first < len(pairs); first += 12 {
		m := impl.Method{Name: "get"}
		for _, p := range pairs[first:min(first+12, len(pairs))] {
			m.Code = append(m.Code, p.instr)
		}
		list = append(list, []impl.Script{{Name: "cell", Methods: []impl.Method{m}}})
	}
	for size := range 7 * 5 * 13 {
		l := p06Library(strings.Fields("f abcdef d ab b a")[:size%7]...)
		for i := range l {
			l[i].Methods = p06Methods(strings.Fields("z get abcdef a")[:(size+3*i)%5]...)
			for j := range l[i].Methods {
				l[i].Methods[j].Code = p06Code((size + i + j) % 13)
			}
		}
		list = append(list, l)
	}
	return list
}

// The promise.
func TestP07LibrariesAreParsedFromTheirText(t *testing.T) {
	for _, l := range p07Libraries() {
		text := impl.FormatLibrary(l)
		if len(text) > 4000 || !impl.IsLibrary(l) {
			t.Fatalf("%+v is no library with a short text", l)
		}
		if got, ok := impl.ParseLibrary(text); !ok || !p07EqualLibraries(got, l) {
			t.Errorf("of %q, ParseLibrary is %+v, %v", text, got, ok)
		}
		p07CheckLibrary(t, text)
	}
}

// p07Fill writes into the code and the methods of one script, and into all the room behind them.
func p07Fill(s *impl.Script) {
	for i := range s.Methods {
		p07FillMethod(&s.Methods[i])
	}
	room := s.Methods[:cap(s.Methods)]
	for i := range room {
		room[i] = impl.Method{Name: "other"}
	}
}

func p07FillMethod(m *impl.Method) {
	room := m.Code[:cap(m.Code)]
	for i := range room {
		room[i] = impl.Instr{Op: 99}
	}
}

func TestP07ParsedLibrariesShareNoMemory(t *testing.T) {
	for _, want := range p07Libraries() {
		text := impl.FormatLibrary(want)
		kept, _ := impl.ParseLibrary(text)
		for i := range want {
			l, ok := impl.ParseLibrary(text)
			if !ok {
				t.Fatalf("%q is not parsed", text)
			}
			for j := range l[i].Methods {
				l, _ := impl.ParseLibrary(text)
				p07FillMethod(&l[i].Methods[j])
				l[i].Methods[j].Code = want[i].Methods[j].Code
				if !p07EqualLibraries(l, want) {
					t.Fatalf("with method %d of script %d changed, the others are %+v", j, i, l)
				}
			}
			p07Fill(&l[i])
			l[i] = want[i]
			if !p07EqualLibraries(l, want) {
				t.Fatalf("with script %d changed, the others are %+v", i, l)
			}
		}
		if !p07EqualLibraries(kept, want) {
			t.Fatalf("the first answer has become %+v", kept)
		}
	}
}

func TestP07FormattingChangesNothing(t *testing.T) {
	for _, l := range append(p07Libraries(), p07NoScripts(), p06SomeScripts()) {
		kept := []impl.Script{}
		for _, s := range l {
			kept = append(kept, impl.Script{Name: s.Name})
			for _, m := range s.Methods {
				methods := &kept[len(kept)-1].Methods
				*methods = append(*methods, impl.Method{Name: m.Name, Code: slices.Clone(m.Code)})
			}
		}
		first := impl.FormatLibrary(l)
		for _, s := range l {
			impl.FormatScript(s)
		}
		if !p07EqualLibraries(l, kept) || impl.FormatLibrary(l) != first {
			t.Errorf("a library has become %+v", l)
		}
	}
}

func TestP07CountLines(t *testing.T) {
	cases := map[string]int{
		"": 0, "a": 0, "\n": 1, "a\n": 1, "\na": 1, "a\nb": 1, "a\nb\n": 2, "\n\n": 2, "\n\n\n": 3, "a\n\nb": 2, "\r": 0, "\r\n": 1, "\n\r": 1, "a\rb\r\n": 1, "\\n": 0, "n": 0,
		"\v\f\x0b\x0c": 0, "\u0085\u2028\u2029": 0, "\u010a": 0, "\u0a0a": 0, "é\né\n": 2, "\xff\n\xff": 1, "\xe2\n": 1, "\xc3\n\xa9": 1, "\x8a": 0, "\x00\n\x00": 1, p07CellText: 10, "script a": 0, " \n \n ": 2,
	}
	for s, want := range cases {
		if got := impl.CountLines(s); got != want {
			t.Errorf("CountLines(%q) = %d", s, got)
		}
	}
	// Any text has lines, also one that is too long for a library.
	for _, n := range []int{255, 256, 257, 4000, 4001, 1 << 16, 1<<16 + 1} {
		for part, each := range map[string]int{"\n": 1, "a\n": 1, "\na\n": 2, "a": 0} {
			if got := impl.CountLines(strings.Repeat(part, n)); got != n*each {
				t.Errorf("CountLines of %d times %q = %d", n, part, got)
			}
		}
	}
	for _, l := range p07Libraries() {
		want := len(l)
		for _, s := range l {
			want += len(s.Methods)
			for _, m := range s.Methods {
				want += len(m.Code)
			}
		}
		if got := impl.CountLines(impl.FormatLibrary(l)); got != want {
			t.Errorf("%d lines stand for %d scripts, methods and instructions", got, want)
		}
	}
}
