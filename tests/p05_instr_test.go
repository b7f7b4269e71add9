package tests

import (
	"maps"
	"math"
	"slices"
	"strings"
	"testing"

	"loop.example/g00591/impl"
)

// The numbers of the chapter, written out, so that a wrong constant does not go unseen.
const (
	p05Const  = 1
	p05Arg    = 2
	p05Slot   = 3
	p05Self   = 4
	p05Add    = 5
	p05Send   = 6
	p05New    = 7
	p05Set    = 8
	p05Skip   = 9
	p05Return = 10
)

func p05Operations() []int {
	return []int{p05Const, p05Arg, p05Slot, p05Self, p05Add, p05Send, p05New, p05Set, p05Skip, p05Return}
}

// p05OtherOperations also has numbers that become an operation if their upper bits are lost.
func p05OtherOperations() []int {
	return []int{
		0, 11, 12, 13, 100, 256, 257, 262, 1<<8 + 10, 1<<16 + 6, 1 << 32, 1<<32 + 1, 1<<32 + 6, 1<<32 + 10, math.MaxInt64, math.MaxInt64 - 1,
		-1, -2, -6, -10, -11, -250, -1 << 32, math.MinInt64, math.MinInt64 + 1, math.MinInt64 + 6, math.MinInt64 + 10,
	}
}

// p05Far are numbers that no field takes.
func p05Far() []int {
	return []int{-2, -3, -8, -999999, -1 << 32, math.MinInt64, math.MinInt64 + 1, 1000000, 1000001, 1 << 32, 1<<32 + 1, math.MaxInt64, math.MaxInt64 - 1}
}

func p05NotNames() []string {
	return []string{"", "abcdefg", "abcdefgh", "Get", "get1", "g t", "get ", " get", "g\x00", "gét", "\xffget", "get\n", "-"}
}

// p05Field returns the place of the field with this letter.
func p05Field(x *impl.Instr, letter rune) *int {
	switch letter {
	case 'A':
		return &x.A
	case 'B':
		return &x.B
	case 'C':
		return &x.C
	}
	return &x.D
}

// p05Form is a form as the chapter says it: the range of each field that it names (for all others, low and
// high are 0), whether C and D may be -1 (passes), whether it has a Name, and one instruction of this form.
type p05Form struct {
	op     int
	high   map[rune]int
	low    map[rune]int
	passes bool
	named  bool
	sample impl.Instr
}

func p05Forms() []p05Form {
	zero := map[rune]int{}
	return []p05Form{
		{p05Const, map[rune]int{'A': 7, 'B': 999999}, zero, false, false, impl.Instr{Op: 1, A: 3, B: 17}},
		{p05Arg, map[rune]int{'A': 7, 'B': 1}, zero, false, false, impl.Instr{Op: 2, A: 3, B: 1}},
		{p05Slot, map[rune]int{'A': 7, 'B': 2}, zero, false, false, impl.Instr{Op: 3, A: 3, B: 1}},
		{p05Self, map[rune]int{'A': 7}, zero, false, false, impl.Instr{Op: 4, A: 3}},
		{p05Add, map[rune]int{'A': 7, 'B': 7, 'C': 7}, zero, false, false, impl.Instr{Op: 5, A: 3, B: 4, C: 5}},
		{p05Send, map[rune]int{'A': 7, 'B': 7, 'C': 7, 'D': 7}, zero, true, true, impl.Instr{Op: 6, A: 3, B: 4, C: 5, D: 6, Name: "get"}},
		{p05New, map[rune]int{'A': 7, 'C': 7, 'D': 7}, zero, true, true, impl.Instr{Op: 7, A: 3, C: 5, D: 6, Name: "cell"}},
		{p05Set, map[rune]int{'A': 2, 'B': 7}, zero, false, false, impl.Instr{Op: 8, A: 1, B: 4}},
		{p05Skip, map[rune]int{'A': 7, 'B': 12}, map[rune]int{'B': 1}, false, false, impl.Instr{Op: 9, A: 3, B: 2}},
		{p05Return, map[rune]int{'A': 7}, zero, false, false, impl.Instr{Op: 10, A: 3}},
	}
}

func TestP05Constants(t *testing.T) {
	if impl.Registers != 8 || impl.MaxCode != 12 || impl.MaxArgs != 2 || impl.MaxSlots != 3 || impl.MaxName != 6 {
		t.Error(impl.Registers, impl.MaxCode, impl.MaxArgs, impl.MaxSlots, impl.MaxName)
	}
	got := []int{impl.InConst, impl.InArg, impl.InSlot, impl.InSelf, impl.InAdd, impl.InSend, impl.InNew, impl.InSet, impl.InSkip, impl.InReturn}
	if !slices.Equal(got, p05Operations()) {
		t.Error(got)
	}
}

func TestP05IsNameByLength(t *testing.T) {
	for length := range 20 {
		for _, letter := range []string{"a", "m", "z"} {
			s := strings.Repeat(letter, length)
			if got := impl.IsName(s); got != (length >= 1 && length <= 6) {
				t.Errorf("IsName(%q) = %v", s, got)
			}
		}
	}
	for _, s := range []string{"a", "ab", "get", "cell", "query", "abcdef", "uvwxyz"} {
		if !impl.IsName(s) {
			t.Errorf("%q is no name", s)
		}
	}
	for _, length := range []int{256, 257, 262, 1 << 16, 1<<16 + 3} {
		if impl.IsName(strings.Repeat("a", length)) {
			t.Errorf("%d letters are a name", length)
		}
	}
}

func TestP05IsNameOfEveryByte(t *testing.T) {
	for c := range 256 {
		isLetter := strings.IndexByte("abcdefghijklmnopqrstuvwxyz", byte(c)) >= 0
		for length := 1; length <= 7; length++ {
			for place := range length {
				b := []byte(strings.Repeat("q", length))
				b[place] = byte(c)
				if got := impl.IsName(string(b)); got != (isLetter && length <= 6) {
					t.Errorf("IsName(%q) = %v", b, got)
				}
			}
		}
	}
}

func TestP05IsNameRejects(t *testing.T) {
	texts := []string{
		// capital letters, digits and other ASCII
		"A", "Z", "Get", "geT", "gEt", "GET", "a1", "1a", "1", "007", "a b", "a_b", "a-b", "a.b", "a/b", " a", "a ", "\ta", "a\n", "\n", " ", "`", "{", "@", "[",
		"\x00", "a\x00", "\x00a", "abcde\x00", "\x7f",
		// letters of other alphabets, in UTF-8
		"ä", "é", "ß", "ÿ", "š", "aé", "éa", "abcé", "abcdé", "abcdeé", "а", "г", "α", "ａ", "ｚ", "ª", "ı", "ſ", "aſ", "K", "日", "𝐚", "🙂", "a\u0301", "\u200ba", "\ufeffa",
		// bytes that are no UTF-8
		"\x80", "\xff", "a\xff", "\xffa", "a\xc3", "\xe1", "\xfa", "a\xe1b", "\xc1\xa1", "\xe0\x81\xa1", "abcde\x80",
	}
	for _, s := range texts {
		if impl.IsName(s) {
			t.Errorf("%q is a name", s)
		}
	}
}

func TestP05IsReg(t *testing.T) {
	for n := -300; n <= 300; n++ {
		if got := impl.IsReg(n); got != (n >= 0 && n <= 7) {
			t.Errorf("IsReg(%d) = %v", n, got)
		}
	}
	for _, n := range append(p05Far(), 1<<8, 1<<8+7, 1<<16+3, 1<<32+7, -1<<32+7, math.MinInt64+7) {
		if impl.IsReg(n) {
			t.Errorf("%d is a register", n)
		}
	}
}

func TestP05IsInstrOfWrittenInstructions(t *testing.T) {
	cases := []struct {
		x    impl.Instr
		want bool
	}{
		{impl.Instr{}, false}, {impl.Instr{Op: 1}, true}, {impl.Instr{Op: 1, A: 7, B: 999999}, true}, {impl.Instr{Op: 1, A: 7, B: 1000000}, false},
		{impl.Instr{Op: 1, A: 8}, false}, {impl.Instr{Op: 1, A: -1}, false}, {impl.Instr{Op: 1, B: -1}, false}, {impl.Instr{Op: 1, C: -1}, false},
		{impl.Instr{Op: 1, C: -1, D: -1}, false}, {impl.Instr{Op: 1, Name: "get"}, false},
		{impl.Instr{Op: 2, A: 7, B: 1}, true}, {impl.Instr{Op: 2, B: 2}, false}, {impl.Instr{Op: 2, B: -1}, false},
		{impl.Instr{Op: 3, A: 7, B: 2}, true}, {impl.Instr{Op: 3, B: 3}, false}, {impl.Instr{Op: 3, B: -1}, false},
		{impl.Instr{Op: 4}, true}, {impl.Instr{Op: 4, A: 7}, true}, {impl.Instr{Op: 4, A: 8}, false}, {impl.Instr{Op: 4, B: 1}, false},
		{impl.Instr{Op: 5}, true}, {impl.Instr{Op: 5, A: 7, B: 7, C: 7}, true}, {impl.Instr{Op: 5, C: -1}, false}, {impl.Instr{Op: 5, D: -1}, false},
		{impl.Instr{Op: 5, D: 1}, false}, {impl.Instr{Op: 5, B: 8}, false},
		{impl.Instr{Op: 6, C: -1, D: -1, Name: "get"}, true}, {impl.Instr{Op: 6, Name: "get"}, true}, {impl.Instr{Op: 6, D: -1, Name: "get"}, true},
		{impl.Instr{Op: 6, C: -1, Name: "get"}, false}, {impl.Instr{Op: 6, C: -1, D: 7, Name: "get"}, false}, {impl.Instr{Op: 6, C: -1, D: -1}, false},
		{impl.Instr{Op: 6, A: -1, C: -1, D: -1, Name: "get"}, false}, {impl.Instr{Op: 6, B: -1, C: -1, D: -1, Name: "get"}, false},
		{impl.Instr{Op: 7, C: -1, D: -1, Name: "cell"}, true}, {impl.Instr{Op: 7, C: 7, D: 7, Name: "cell"}, true}, {impl.Instr{Op: 7, C: 7, D: -1, Name: "cell"}, true},
		{impl.Instr{Op: 7, C: -1, Name: "cell"}, false}, {impl.Instr{Op: 7, B: 1, Name: "cell"}, false}, {impl.Instr{Op: 7, B: -1, Name: "cell"}, false}, {impl.Instr{Op: 7}, false},
		{impl.Instr{Op: 8}, true}, {impl.Instr{Op: 8, A: 2, B: 7}, true}, {impl.Instr{Op: 8, A: 3}, false}, {impl.Instr{Op: 8, A: -1}, false}, {impl.Instr{Op: 8, B: 8}, false},
		{impl.Instr{Op: 8, B: -1}, false}, {impl.Instr{Op: 8, C: 1}, false},
		{impl.Instr{Op: 9}, false}, {impl.Instr{Op: 9, B: 1}, true}, {impl.Instr{Op: 9, A: 7, B: 12}, true}, {impl.Instr{Op: 9, B: 13}, false}, {impl.Instr{Op: 9, B: -1}, false},
		{impl.Instr{Op: 10}, true}, {impl.Instr{Op: 10, A: 7}, true}, {impl.Instr{Op: 10, A: 8}, false}, {impl.Instr{Op: 10, A: -1}, false}, {impl.Instr{Op: 10, B: 1}, false},
		{impl.Instr{Op: 11}, false}, {impl.Instr{Op: -1}, false}, {impl.Instr{Op: 11, C: -1, D: -1, Name: "get"}, false},
	}
	for _, c := range cases {
		if got := impl.IsInstr(c.x); got != c.want {
			t.Errorf("IsInstr(%+v) = %v", c.x, got)
		}
	}
}

func TestP05IsInstrAtTheEndsOfEachField(t *testing.T) {
	for _, f := range p05Forms() {
		if !impl.IsInstr(f.sample) {
			t.Errorf("%+v is no instruction", f.sample)
		}
		for _, letter := range "ABCD" {
			low, high := f.low[letter], f.high[letter]
			for n, want := range map[int]bool{low: true, high: true, (low + high) / 2: true, low - 2: false, high + 1: false, high + 2: false} {
				x := f.sample
				*p05Field(&x, letter) = n
				if got := impl.IsInstr(x); got != want {
					t.Errorf("%c at %d: IsInstr(%+v) = %v", letter, n, x, got)
				}
			}
			for _, n := range p05Far() {
				x := f.sample
				*p05Field(&x, letter) = n
				if impl.IsInstr(x) {
					t.Errorf("%c at %d: %+v is an instruction", letter, n, x)
				}
			}
		}
	}
}

func TestP05IsInstrWithFieldsAtMinusOne(t *testing.T) {
	for _, f := range p05Forms() {
		for _, letter := range "ABCD" {
			x := f.sample
			*p05Field(&x, letter) = -1
			// Of the samples, which have registers in C and D, only these may do without one: D alone.
			want := f.passes && letter == 'D'
			if got := impl.IsInstr(x); got != want {
				t.Errorf("IsInstr(%+v) = %v", x, got)
			}
		}
		x := f.sample
		x.C, x.D = -1, -1
		if got := impl.IsInstr(x); got != f.passes {
			t.Errorf("IsInstr(%+v) = %v", x, got)
		}
	}
}

func TestP05IsInstrWithFieldsThatAreNotNamed(t *testing.T) {
	others := append(p05Far(), 1, 2, 3, 7, 8, 12, 13, 999999, -1)
	for _, f := range p05Forms() {
		for _, letter := range "ABCD" {
			if _, isNamed := f.high[letter]; isNamed {
				continue
			}
			for _, n := range others {
				x := f.sample
				*p05Field(&x, letter) = n
				if impl.IsInstr(x) {
					t.Errorf("%c is not named, but %+v is an instruction", letter, x)
				}
			}
		}
		for _, name := range append(p05NotNames(), "a", "get", "abcdef") {
			x := f.sample
			x.Name = name
			want := !f.named && name == "" || f.named && impl.IsName(name)
			if got := impl.IsInstr(x); got != want {
				t.Errorf("IsInstr(%+v) = %v", x, got)
			}
		}
	}
}

func TestP05IsInstrWithNamesThatAreNone(t *testing.T) {
	for _, name := range p05NotNames() {
		for _, x := range []impl.Instr{{Op: 6, C: -1, D: -1}, {Op: 6, A: 1, B: 2, C: 3, D: 4}, {Op: 7, C: -1, D: -1}, {Op: 7, A: 1, C: 3, D: 4}} {
			x.Name = name
			if impl.IsInstr(x) {
				t.Errorf("%+v is an instruction", x)
			}
			x.Name = "abcdef"
			if !impl.IsInstr(x) {
				t.Errorf("%+v is no instruction", x)
			}
		}
	}
}

func TestP05IsInstrWithTwoOptionalRegisters(t *testing.T) {
	numbers := append(p05Far(), -1, 0, 1, 2, 3, 4, 5, 6, 7, 8, 9)
	for _, c := range numbers {
		for _, d := range numbers {
			// D is -1 if C is: no second value without a first.
			want := c == -1 && d == -1 || c >= 0 && c <= 7 && d >= -1 && d <= 7
			for _, x := range []impl.Instr{{Op: 6, A: 7, B: 7, C: c, D: d, Name: "get"}, {Op: 7, A: 7, C: c, D: d, Name: "cell"}} {
				if got := impl.IsInstr(x); got != want {
					t.Errorf("IsInstr(%+v) = %v", x, got)
				}
			}
		}
	}
}

func TestP05IsInstrOfOtherOperations(t *testing.T) {
	for _, op := range p05OtherOperations() {
		for _, f := range p05Forms() {
			x := f.sample
			x.Op = op
			if impl.IsInstr(x) {
				t.Errorf("%+v is an instruction", x)
			}
		}
		if impl.IsInstr(impl.Instr{Op: op}) {
			t.Errorf("operation %d is an instruction", op)
		}
	}
}

// fits says whether x, whose operation is that of f, has the form f, from the ranges of f alone.
func (f p05Form) fits(x impl.Instr) bool {
	for _, letter := range "ABCD" {
		n := *p05Field(&x, letter)
		isFree := f.passes && n == -1 && (letter == 'D' || letter == 'C' && x.D == -1)
		if !isFree && (n < f.low[letter] || n > f.high[letter]) {
			return false
		}
	}
	name := ""
	if f.named {
		name = "get"
	}
	return x.Name == name
}

// p05Every calls visit with instructions of every operation, and of some that are none, with many fields.
func p05Every(visit func(x impl.Instr)) {
	numbers := []int{math.MinInt64, -2, -1, 0, 1, 2, 3, 7, 8, 12, 13, 999999, 1000000, math.MaxInt64}
	fewer := []int{math.MinInt64, -2, -1, 0, 1, 2, 7, 8, 999999, math.MaxInt64}
	for _, op := range append(p05Operations(), 0, 11, -1, -6, math.MinInt64, math.MaxInt64) {
		for _, a := range numbers {
			for _, b := range numbers {
				for _, c := range fewer {
					for _, d := range fewer {
						for _, name := range []string{"", "get", "Get"} {
							visit(impl.Instr{Op: op, A: a, B: b, C: c, D: d, Name: name})
						}
					}
				}
			}
		}
	}
}

func TestP05IsInstrOfManyInstructions(t *testing.T) {
	forms := map[int]p05Form{}
	for _, f := range p05Forms() {
		forms[f.op] = f
	}
	counts := map[int]int{}
	wrong := 0
	p05Every(func(x impl.Instr) {
		f, isOperation := forms[x.Op]
		want := isOperation && f.fits(x)
		got := impl.IsInstr(x)
		if got {
			counts[x.Op]++
		}
		if got != want && wrong < 20 {
			t.Errorf("IsInstr(%+v) = %v", x, got)
			wrong++
		}
	})
	// how many numbers of p05Every are in the range of each field, multiplied
	want := map[int]int{1: 5 * 9, 2: 5 * 2, 3: 5 * 3, 4: 5, 5: 5 * 5 * 4, 6: 5 * 5 * (4*5 + 1), 7: 5 * (4*5 + 1), 8: 3 * 5, 9: 5 * 6, 10: 5}
	if !maps.Equal(counts, want) {
		t.Errorf("there are %v instructions of each operation, not %v", counts, want)
	}
}

func TestP05AnInstructionWritesAtMostOneRegister(t *testing.T) {
	writes := map[int]bool{p05Const: true, p05Arg: true, p05Slot: true, p05Self: true, p05Add: true, p05Send: true, p05New: true}
	p05Every(func(x impl.Instr) {
		if !impl.IsInstr(x) {
			return
		}
		target := impl.TargetOf(x)
		if writes[x.Op] != impl.IsReg(target) || !writes[x.Op] && target != -1 {
			t.Errorf("%+v writes %d", x, target)
		}
		for _, reg := range impl.RegsOf(x) {
			if !impl.IsReg(reg) {
				t.Errorf("%+v reads %d", x, reg)
			}
		}
		// Another target is another A, and changes nothing of what is read.
		y := x
		y.A = (x.A + 1) % 8
		if writes[x.Op] && (impl.TargetOf(y) != y.A || !slices.Equal(impl.RegsOf(y), impl.RegsOf(x))) {
			t.Errorf("%+v writes %d and reads %v", y, impl.TargetOf(y), impl.RegsOf(y))
		}
	})
}

func TestP05OpName(t *testing.T) {
	names := []string{"const", "arg", "slot", "self", "add", "send", "new", "set", "skip", "return"}
	for i, want := range names {
		got := impl.OpName(i + 1)
		if got != want {
			t.Errorf("OpName(%d) = %q", i+1, got)
		}
	}
	for _, op := range p05OtherOperations() {
		if got := impl.OpName(op); got != "" {
			t.Errorf("OpName(%d) = %q", op, got)
		}
	}
	for op := -300; op <= 600; op++ {
		if got := impl.OpName(op); (got != "") != (op >= 1 && op <= 10) {
			t.Errorf("OpName(%d) = %q", op, got)
		}
	}
}

func TestP05RegsOf(t *testing.T) {
	cases := []struct {
		x    impl.Instr
		want []int
	}{
		{impl.Instr{Op: 1, A: 1, B: 2}, nil}, {impl.Instr{Op: 2, A: 3, B: 1}, nil}, {impl.Instr{Op: 3, A: 3, B: 2}, nil}, {impl.Instr{Op: 4, A: 3}, nil},
		{impl.Instr{Op: 5, A: 1, B: 2, C: 3}, []int{2, 3}}, {impl.Instr{Op: 5, A: 1, B: 3, C: 2}, []int{3, 2}}, {impl.Instr{Op: 5, A: 4, B: 4, C: 4}, []int{4, 4}},
		{impl.Instr{Op: 6, A: 1, B: 2, C: -1, D: -1, Name: "get"}, []int{2}}, {impl.Instr{Op: 6, A: 1, B: 2, C: 3, D: -1, Name: "get"}, []int{2, 3}},
		{impl.Instr{Op: 6, A: 1, B: 7, C: 6, D: 5, Name: "get"}, []int{7, 6, 5}}, {impl.Instr{Op: 6, A: 1, C: 0, D: 0, Name: "get"}, []int{0, 0, 0}},
		{impl.Instr{Op: 7, A: 1, C: -1, D: -1, Name: "cell"}, nil}, {impl.Instr{Op: 7, A: 1, C: 3, D: -1, Name: "cell"}, []int{3}},
		{impl.Instr{Op: 7, A: 1, C: 4, D: 3, Name: "cell"}, []int{4, 3}}, {impl.Instr{Op: 7, A: 1, Name: "cell"}, []int{0, 0}},
		{impl.Instr{Op: 8, A: 2, B: 5}, []int{5}}, {impl.Instr{Op: 8, A: 2}, []int{0}},
		{impl.Instr{Op: 9, A: 6, B: 2}, []int{6}}, {impl.Instr{Op: 10, A: 6}, []int{6}}, {impl.Instr{Op: 10}, []int{0}}, {impl.Instr{}, nil},
	}
	for _, c := range cases {
		if got := impl.RegsOf(c.x); !slices.Equal(got, c.want) {
			t.Errorf("RegsOf(%+v) = %v", c.x, got)
		}
	}
}

func TestP05RegsOfInvalidInstructions(t *testing.T) {
	cases := []struct {
		x    impl.Instr
		want []int
	}{
		// fields that the form does not name, and names, do not count
		{impl.Instr{Op: 1, A: 1, B: -1, C: 5, D: 6, Name: "Get"}, nil}, {impl.Instr{Op: 4, A: 9, B: 3, C: 4, D: 5}, nil},
		{impl.Instr{Op: 5, A: 1, B: 2, C: 3, D: 4, Name: "x"}, []int{2, 3}}, {impl.Instr{Op: 6, A: 9, B: 2, C: 3, D: 4}, []int{2, 3, 4}},
		{impl.Instr{Op: 7, A: 9, B: 6, C: 3, D: 4}, []int{3, 4}}, {impl.Instr{Op: 8, A: 9, B: 2, C: 3, D: 4, Name: "x"}, []int{2}},
		{impl.Instr{Op: 9, A: 2, B: 0, C: 3, D: 4}, []int{2}}, {impl.Instr{Op: 10, A: 2, B: 7, C: 3, D: 4}, []int{2}},
		// a second value without a first
		{impl.Instr{Op: 6, A: 1, B: 2, C: -1, D: 4, Name: "get"}, []int{2, 4}}, {impl.Instr{Op: 7, A: 1, C: -1, D: 4, Name: "cell"}, []int{4}},
		// registers that do not exist: only -1 in C and D of InSend and InNew is left out
		{impl.Instr{Op: 5, B: -1, C: -1}, []int{-1, -1}}, {impl.Instr{Op: 5, B: 8, C: -2}, []int{8, -2}},
		{impl.Instr{Op: 6, B: -1, C: -1, D: -1}, []int{-1}}, {impl.Instr{Op: 6, B: 8, C: -2, D: 9}, []int{8, -2, 9}},
		{impl.Instr{Op: 7, C: 8, D: -2}, []int{8, -2}}, {impl.Instr{Op: 7, C: math.MinInt64, D: math.MaxInt64}, []int{math.MinInt64, math.MaxInt64}},
		{impl.Instr{Op: 8, B: -1}, []int{-1}}, {impl.Instr{Op: 8, B: 8}, []int{8}},
		{impl.Instr{Op: 9, A: -1}, []int{-1}}, {impl.Instr{Op: 9, A: 8}, []int{8}}, {impl.Instr{Op: 10, A: -1}, []int{-1}}, {impl.Instr{Op: 10, A: math.MaxInt64}, []int{math.MaxInt64}},
	}
	for _, c := range cases {
		if impl.IsInstr(c.x) {
			t.Errorf("%+v is an instruction", c.x)
		}
		if got := impl.RegsOf(c.x); !slices.Equal(got, c.want) {
			t.Errorf("RegsOf(%+v) = %v", c.x, got)
		}
	}
	for _, op := range p05OtherOperations() {
		if got := impl.RegsOf(impl.Instr{Op: op, A: 1, B: 2, C: 3, D: 4, Name: "get"}); len(got) != 0 {
			t.Errorf("operation %d reads %v", op, got)
		}
	}
}

func TestP05TargetOf(t *testing.T) {
	for _, op := range append(p05Operations(), p05OtherOperations()...) {
		for _, a := range append(p05Far(), -1, 0, 1, 2, 6, 7, 8) {
			want := -1
			if op >= 1 && op <= 7 {
				want = a
			}
			// The other fields do not count, whether they are valid or not.
			for _, x := range []impl.Instr{{Op: op, A: a}, {Op: op, A: a, B: 5, C: 4, D: 3, Name: "get"}, {Op: op, A: a, B: -1, C: -1, D: -1, Name: "Get"}} {
				if got := impl.TargetOf(x); got != want {
					t.Errorf("TargetOf(%+v) = %d", x, got)
				}
			}
		}
	}
}

func TestP05RegsOfIsNewMemory(t *testing.T) {
	for _, f := range p05Forms() {
		first, second := impl.RegsOf(f.sample), impl.RegsOf(f.sample)
		want := slices.Clone(second)
		for i := range first {
			first[i] = 99
		}
		first = append(first, 99)
		if !slices.Equal(second, want) || !slices.Equal(impl.RegsOf(f.sample), want) {
			t.Errorf("RegsOf(%+v) has become %v", f.sample, second)
		}
	}
}
