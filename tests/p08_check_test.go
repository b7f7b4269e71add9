package tests

import (
	"fmt"
	"math"
	"slices"
	"strings"
	"testing"

	"loop.example/g00591/impl"
)

// p08Method returns the method of these instructions, which are written as text and separated by semicolons.
func p08Method(t *testing.T, text string) impl.Method {
	t.Helper()
	m := impl.Method{Name: "get"}
	if text == "" {
		return m
	}
	for _, line := range strings.Split(text, "; ") {
		x, ok := impl.ParseInstr(line)
		if !ok {
			t.Fatalf("%q is no instruction", line)
		}
		m.Code = append(m.Code, x)
	}
	return m
}

// p08Reads and p08Target say of an instruction what chapter 5 says, without the program.
func p08Reads(x impl.Instr) []int {
	passed := []int{}
	for _, reg := range []int{x.C, x.D} {
		if reg != -1 {
			passed = append(passed, reg)
		}
	}
	switch x.Op {
	case p05Add:
		return []int{x.B, x.C}
	case p05Send:
		return append([]int{x.B}, passed...)
	case p05New:
		return passed
	case p05Set:
		return []int{x.B}
	case p05Skip, p05Return:
		return []int{x.A}
	}
	return nil
}

func p08Target(x impl.Instr) int {
	if x.Op >= p05Const && x.Op <= p05New {
		return x.A
	}
	return -1
}

// p08FirstUnset walks every single way through the code, and keeps no sets of places.
func p08FirstUnset(code []impl.Instr) int {
	first := -1
	var walk func(place int, set []int)
	walk = func(place int, set []int) {
		if place == len(code) {
			return
		}
		x := code[place]
		for _, reg := range p08Reads(x) {
			if !slices.Contains(set, reg) && (first < 0 || place < first) {
				first = place
			}
		}
		if target := p08Target(x); target >= 0 {
			set = append(slices.Clone(set), target)
		}
		if x.Op == p05Return {
			return
		}
		walk(place+1, set)
		if x.Op != p05Skip {
			return
		}
		if x.B < 0 || x.B > len(code)-place-1 {
			walk(len(code), set)
		} else {
			walk(place+1+x.B, set)
		}
	}
	walk(0, nil)
	return first
}

// p08Check holds FirstUnset of a method against the number wanted, and IsSafe against what follows from it.
func p08Check(t *testing.T, m impl.Method, want int) {
	t.Helper()
	if got := impl.FirstUnset(m); got != want {
		t.Errorf("FirstUnset of %+v is %d, not %d", m.Code, got, want)
	}
	if got := impl.IsSafe(m); got != (want == -1 && impl.IsMethod(m)) {
		t.Errorf("FirstUnset of %+v is %d, and IsSafe %v", m, want, got)
	}
}

// p08AllSet returns instructions that set the registers 0 to 7, but not the one that is left out (none, if it is no register).
func p08AllSet(without int) []impl.Instr {
	code := []impl.Instr{}
	for reg := range 8 {
		if reg != without {
			code = append(code, impl.Instr{Op: p05Const, A: reg, B: reg})
		}
	}
	return code
}

// p08SkipNumbers are numbers of skipped instructions; many become small ones, or lead back, if they are added or cut off carelessly.
func p08SkipNumbers() []int {
	list := []int{
		-1, -2, -3, -4, -12, -13, 1 << 8, 1<<8 + 1, 1<<16 + 1, 1 << 31, 1<<31 - 1, 1<<31 - 2, 1 << 32, 1<<32 + 1, -1 << 32, 1 - 1<<32, 1 << 62,
		math.MinInt64, math.MinInt64 + 1, math.MinInt64 + 2, math.MinInt64 + 3, math.MaxInt64, math.MaxInt64 - 1, math.MaxInt64 - 2, math.MaxInt64 - 3, math.MaxInt64 - 4,
	}
	for n := range 16 {
		list = append(list, n)
	}
	return list
}

func TestP08Writes(t *testing.T) {
	cases := []struct {
		text   string
		writes []int
	}{
		{"", nil}, {"const 0 5", []int{0}}, {"arg 1 0", []int{1}}, {"slot 2 1", []int{2}}, {"self 3", []int{3}}, {"add 4 1 2", []int{4}}, {"add 4 4 4", []int{4}},
		{"send 5 1 get 2 3", []int{5}}, {"send 5 1 get", []int{5}}, {"new 6 cell 1 2", []int{6}}, {"new 6 cell", []int{6}}, {"self 7", []int{7}},
		// only read, or neither
		{"set 0 1", nil}, {"set 2 2", nil}, {"skip 1 2", nil}, {"skip 3 3", nil}, {"return 1", nil}, {"return 0", nil}, {"set 0 1; skip 2 3; return 4", nil},
		// several, twice, and where no way leads
		{"const 0 5; self 3; return 3", []int{0, 3}}, {"self 3; self 3", []int{3}}, {"return 0; self 3", []int{3}}, {"const 0 0; skip 0 1; self 3", []int{0, 3}},
		{"add 1 2 3; add 2 3 1; return 5", []int{1, 2}}, {"set 0 1; set 1 2; self 7; set 2 3", []int{7}}, {"const 3 7; arg 2 1; slot 1 2; self 0", []int{0, 1, 2, 3}},
	}
	for _, c := range cases {
		m := p08Method(t, c.text)
		for reg := -20; reg <= 20; reg++ {
			if got := impl.Writes(m, reg); got != slices.Contains(c.writes, reg) {
				t.Errorf("Writes of %q, %d is %v", c.text, reg, got)
			}
		}
	}
}

func TestP08WritesAtEveryPlace(t *testing.T) {
	for _, length := range []int{1, 2, 3, 12, 13, 300} {
		for place := range length {
			code := slices.Repeat([]impl.Instr{{Op: p05Set, B: 5}}, length)
			code[place] = impl.Instr{Op: p05Self, A: 5}
			if m := (impl.Method{Code: code}); !impl.Writes(m, 5) || impl.Writes(m, 4) || impl.Writes(m, 0) || impl.Writes(m, -1) {
				t.Errorf("at %d of %d, a register is not found as it is written", place, length)
			}
		}
	}
	// What stands behind the slice is no part of the code.
	if impl.Writes(impl.Method{Code: []impl.Instr{{Op: p05Self, A: 5}, {Op: p05Self, A: 6}}[:1]}, 6) || impl.Writes(impl.Method{Code: []impl.Instr{{Op: p05Self}}[:0]}, 0) {
		t.Error("an instruction behind the code writes")
	}
}

func TestP08WritesWithEveryOperation(t *testing.T) {
	regs := append(p05Far(), -1, 0, 1, 2, 3, 7, 8, 9, 255, 256, 257)
	for _, op := range append(p05Operations(), p05OtherOperations()...) {
		for _, a := range regs {
			// Valid or not, only A counts, and only if there may be a register with this number.
			for _, x := range []impl.Instr{{Op: op, A: a}, {Op: op, A: a, B: 4, C: 5, D: 6, Name: "get"}, {Op: op, A: a, B: -1, C: -1, D: -1, Name: "Get"}} {
				m := impl.Method{Code: []impl.Instr{{}, x, {Op: p05Set, B: 3}}}
				for _, reg := range append(regs, 4, 5, 6) {
					want := op >= p05Const && op <= p05New && reg == a && reg >= 0
					if got := impl.Writes(m, reg); got != want {
						t.Errorf("Writes of %+v, %d is %v", x, reg, got)
					}
				}
			}
		}
	}
}

func TestP08WritesOfMethodsWithoutInstructions(t *testing.T) {
	for _, m := range []impl.Method{{}, {Name: "get"}, {Name: "get", Code: []impl.Instr{}}, {Name: "Get", Code: p06Code(3)[:0]}} {
		for _, reg := range append(p05Far(), -1, 0, 1, 7, 8) {
			if impl.Writes(m, reg) {
				t.Errorf("%+v writes %d", m, reg)
			}
		}
	}
}

func TestP08FirstUnsetOfMethodsWithoutInstructions(t *testing.T) {
	for _, m := range []impl.Method{{}, {Name: "get"}, {Name: "get", Code: []impl.Instr{}}, {Name: "Get"}, {Name: "get", Code: []impl.Instr{{Op: p05Return}}[:0]}} {
		p08Check(t, m, -1)
	}
}

func TestP08FirstUnsetOfWrittenMethods(t *testing.T) {
	cases := []struct {
		text string
		want int
	}{
		// one instruction
		{"const 0 5", -1}, {"arg 7 1", -1}, {"slot 0 2", -1}, {"self 3", -1}, {"add 0 1 2", 0}, {"send 0 1 get", 0}, {"new 0 cell", -1}, {"new 0 cell 1", 0}, {"set 0 1", 0}, {"skip 0 1", 0}, {"return 0", 0},
		// set, and then read
		{"const 0 5; return 0", -1}, {"arg 7 1; return 7", -1}, {"slot 1 2; set 2 1", -1}, {"self 3; send 4 3 get; return 4", -1}, {"const 1 1; add 2 1 1; return 2", -1}, {"new 0 cell; return 0", -1},
		{"const 0 5; return 1", 1}, {"self 3; set 0 2", 1}, {"const 1 1; add 2 1 3", 1}, {"const 1 1; add 2 3 1", 1}, {"self 1; send 2 1 get 3", 1}, {"self 1; send 2 1 get 1 3", 1}, {"self 1; new 2 cell 1 3", 1},
		// read, and then set
		{"return 0; const 0 5", 0}, {"set 0 0; const 0 5", 0}, {"self 1; set 0 2; self 2; set 0 3", 1}, {"self 1; set 0 1; set 0 2; self 2", 2},
		// read where it is set
		{"add 0 0 0", 0}, {"add 1 1 2", 0}, {"add 1 2 1", 0}, {"self 2; add 1 2 1", 1}, {"self 2; add 1 1 2", 1}, {"send 0 0 get", 0}, {"self 1; send 0 1 get 0", 1}, {"self 1; send 0 1 get 1 0", 1}, {"new 0 cell 0", 0},
		{"self 1; new 0 cell 1 0", 1}, {"self 1; add 1 1 1; add 1 1 1; return 1", -1}, {"const 0 0; new 0 cell 0 0; send 0 0 get 0 0; return 0", -1},
		// A and B of other instructions are no registers that are set or read
		{"set 2 2", 0}, {"self 2; set 0 2", -1}, {"self 0; set 1 0; return 1", 2}, {"self 1; skip 1 2; return 2", 2}, {"arg 0 1; return 1", 1}, {"slot 0 2; return 2", 1}, {"const 0 3; return 3", 1},
		// the first of several
		{"return 0; return 1", 0}, {"self 0; set 0 1; set 0 2", 1}, {"self 0; set 0 0; set 0 2; set 0 1", 2}, {"self 0; set 0 7; set 0 1; return 5", 1}, {"self 0; add 1 0 2; add 3 0 4", 1},
		{"self 2; set 0 2; set 1 1; set 2 0", 2}, {"self 2; set 0 2; set 1 0; set 2 1", 2}, {"self 0; set 0 0; set 0 3; set 1 2; set 2 3", 2},
		// the end of the method needs nothing
		{"const 0 0; skip 0 12", -1}, {"self 0; self 1; self 2", -1}, {"const 0 0; skip 0 1", -1},
	}
	for _, c := range cases {
		m := p08Method(t, c.text)
		p08Check(t, m, c.want)
		if got := p08FirstUnset(m.Code); got != c.want {
			t.Errorf("the ways through %q say %d, not %d", c.text, got, c.want)
		}
	}
}

func TestP08FirstUnsetWhereWaysPart(t *testing.T) {
	cases := []struct {
		text string
		want int
	}{
		// set on one way only, and on both
		{"arg 0 0; skip 0 1; self 1; return 1", 3}, {"arg 0 0; skip 0 1; self 1; return 0", -1}, {"arg 0 0; skip 0 2; self 1; return 1; return 0", -1}, {"arg 0 0; skip 0 2; self 1; return 1; return 1", 4},
		{"arg 0 0; skip 0 2; self 1; return 1; self 1; return 1", -1}, {"arg 0 0; self 1; skip 0 1; self 1; return 1", -1}, {"arg 0 0; skip 0 1; self 1; self 1; return 1", -1},
		// both ways meet again, and each has set it
		{"arg 0 0; skip 0 2; self 1; skip 0 1; self 1; return 1", -1}, {"arg 0 0; skip 0 2; self 1; skip 0 1; self 2; return 1", 5}, {"arg 0 0; skip 0 2; self 2; skip 0 1; self 1; return 1", 5}, {"arg 0 0; skip 0 2; self 2; skip 0 1; self 1; return 2", 5},
		// each way sets another one
		{"arg 0 0; skip 0 2; self 1; return 1; self 2; return 2", -1}, {"arg 0 0; skip 0 2; self 1; return 2; self 2; return 1", 3}, {"arg 0 0; skip 0 2; self 1; return 1; self 2; return 1", 5},
		// what is skipped is read by the one behind
		{"arg 0 0; skip 0 1; self 1; add 2 0 1; return 2", 3}, {"arg 0 0; skip 0 1; self 1; set 0 0; set 0 1", 4}, {"const 0 1; skip 0 1; self 1; return 1", 3},
		// the skip reads
		{"self 1; skip 0 1; self 0; return 0", 1}, {"skip 0 12", 0}, {"self 0; skip 0 1; skip 1 1; self 2", 2}, {"self 0; skip 0 1; self 1; skip 1 1; self 2", 3},
		// chains of skips
		{"arg 0 0; skip 0 1; skip 0 1; self 1; return 1", 4}, {"arg 0 0; skip 0 2; skip 0 1; self 1; return 1", 4}, {"arg 0 0; skip 0 1; skip 0 1; self 1; return 0", -1}, {"arg 0 0; self 1; skip 0 2; skip 0 1; self 1; return 1", -1},
		{"arg 0 0; skip 0 1; skip 0 2; self 1; return 1; return 0", -1}, {"arg 0 0; skip 0 1; skip 0 2; self 1; return 1; return 1", 5}, {"arg 0 0; skip 0 3; skip 0 2; skip 0 1; self 1; return 1", 5}, {"arg 0 0; skip 0 1; self 1; skip 0 1; self 2; skip 0 1; return 1; return 2", 6},
		{"arg 0 0; skip 0 1; self 1; skip 0 1; self 1; return 1", 5}, {"arg 0 0; skip 0 1; self 1; skip 0 1; return 0; return 1", 5}, {"arg 0 0; skip 0 1; skip 0 1; skip 0 1; skip 0 1; self 1; self 2; return 2", -1},
		{"arg 0 0; skip 0 4; skip 0 1; self 1; self 2; return 2; return 2", 6}, {"arg 0 0; skip 0 2; skip 0 3; self 1; self 1; return 1; return 0", -1}, {"arg 0 0; skip 0 2; skip 0 3; self 1; self 1; return 1; return 1", 6},
		// over a return
		{"arg 0 0; skip 0 1; return 0; return 1", 3}, {"arg 0 0; skip 0 1; return 1; return 0", 2}, {"arg 0 0; skip 0 1; return 0; self 1; return 1", -1}, {"arg 0 0; self 1; skip 0 1; return 0; return 1", -1}, {"arg 0 0; skip 0 2; self 1; return 0; return 1", 4},
		// places to which no way leads
		{"self 0; return 0; return 1", -1}, {"self 0; return 0; add 1 2 3; send 4 5 get; skip 6 1; return 7", -1}, {"self 0; return 0; self 1; return 1", -1}, {"return 0; return 1", 0}, {"arg 0 0; skip 0 1; return 0; return 0; return 1", -1},
		{"self 0; return 0; skip 0 1; return 1; return 2", -1}, {"arg 0 0; skip 0 2; return 0; return 1; return 0", -1}, {"arg 0 0; skip 0 2; return 0; return 1; return 2", 4}, {"arg 0 0; skip 0 1; return 0; skip 0 1; return 0; return 1; return 2", 5},
		// no way leads from them: what they set is not set, and what they leave unset is no loss
		{"arg 0 0; skip 0 2; return 0; self 1; return 1", 4}, {"arg 0 0; self 1; skip 0 2; return 0; self 2; return 1", -1}, {"arg 0 0; self 1; skip 0 2; return 0; skip 0 12; return 1", -1},
		{"arg 0 0; skip 0 3; return 0; skip 0 2; skip 0 1; self 1; return 1", -1}, {"arg 0 0; skip 0 3; return 0; skip 0 1; set 0 1; self 1; return 1", -1}, {"arg 0 0; skip 0 2; return 0; self 1; self 2; return 2", -1},
		// to the end of the method, and beyond
		{"arg 0 0; skip 0 2; self 1; return 1", -1}, {"arg 0 0; skip 0 3; self 1; return 1", -1}, {"arg 0 0; skip 0 12; self 1; return 1", -1}, {"arg 0 0; skip 0 12; return 1", 2}, {"arg 0 0; self 1; skip 0 1; return 1", -1},
	}
	for _, c := range cases {
		m := p08Method(t, c.text)
		p08Check(t, m, c.want)
		if got := p08FirstUnset(m.Code); got != c.want {
			t.Errorf("the ways through %q say %d, not %d", c.text, got, c.want)
		}
	}
}

// p08Readers returns, for two different registers, instructions of each form that read one or both of them, and with which fields.
func p08Readers(one, other int) []struct {
	x     impl.Instr
	reads []int
} {
	return []struct {
		x     impl.Instr
		reads []int
	}{
		{impl.Instr{Op: p05Add, A: other, B: one, C: other}, []int{one, other}}, {impl.Instr{Op: p05Add, A: one, B: other, C: one}, []int{one, other}},
		{impl.Instr{Op: p05Add, A: other, B: one, C: one}, []int{one}}, {impl.Instr{Op: p05Add, A: one, B: one, C: one}, []int{one}},
		{impl.Instr{Op: p05Send, A: other, B: one, C: -1, D: -1, Name: "get"}, []int{one}}, {impl.Instr{Op: p05Send, A: one, B: one, C: -1, D: -1, Name: "get"}, []int{one}},
		{impl.Instr{Op: p05Send, A: one, B: other, C: one, D: -1, Name: "get"}, []int{one, other}}, {impl.Instr{Op: p05Send, A: other, B: one, C: other, D: other, Name: "get"}, []int{one, other}},
		{impl.Instr{Op: p05Send, A: one, B: other, C: other, D: one, Name: "get"}, []int{one, other}}, {impl.Instr{Op: p05Send, A: other, B: one, C: one, D: one, Name: "get"}, []int{one}},
		{impl.Instr{Op: p05New, A: other, C: one, D: -1, Name: "cell"}, []int{one}}, {impl.Instr{Op: p05New, A: one, C: other, D: one, Name: "cell"}, []int{one, other}},
		{impl.Instr{Op: p05New, A: one, C: one, D: other, Name: "cell"}, []int{one, other}}, {impl.Instr{Op: p05New, A: one, C: -1, D: -1, Name: "cell"}, nil},
		{impl.Instr{Op: p05Set, A: 2, B: one}, []int{one}}, {impl.Instr{Op: p05Skip, A: one, B: 2}, []int{one}}, {impl.Instr{Op: p05Return, A: one}, []int{one}},
		{impl.Instr{Op: p05Const, A: one, B: other}, nil}, {impl.Instr{Op: p05Arg, A: one, B: 1}, nil}, {impl.Instr{Op: p05Slot, A: one, B: 2}, nil}, {impl.Instr{Op: p05Self, A: one}, nil},
	}
}

func TestP08FirstUnsetOfEveryReaderAndRegister(t *testing.T) {
	for one := range 8 {
		for other := range 8 {
			if one == other {
				continue
			}
			for _, r := range p08Readers(one, other) {
				all := append(p08AllSet(-1), r.x)
				p08Check(t, impl.Method{Name: "get", Code: all}, -1)
				for missing := range 8 {
					want := -1
					if slices.Contains(r.reads, missing) {
						want = 7
					}
					p08Check(t, impl.Method{Name: "get", Code: append(p08AllSet(missing), r.x)}, want)
				}
				want := -1
				if len(r.reads) > 0 {
					want = 0
				}
				p08Check(t, impl.Method{Name: "get", Code: []impl.Instr{r.x}}, want)
			}
		}
	}
}

func TestP08FirstUnsetAfterEveryWriter(t *testing.T) {
	for reg := range 8 {
		for _, f := range p05Forms() {
			x := f.sample
			x.A = reg
			// What the instruction itself reads is set before.
			code := []impl.Instr{{Op: p05Self, A: 4}, {Op: p05Self, A: 5}, {Op: p05Self, A: 6}, x, {Op: p05Set, B: reg}}
			want := -1
			switch {
			case reg >= 4 && reg <= 6:
			case f.op == p05Set:
				want = 4
			case f.op == p05Skip || f.op == p05Return:
				want = 3
			}
			if got := impl.FirstUnset(impl.Method{Name: "get", Code: code}); got != want {
				t.Errorf("FirstUnset of %+v is %d, not %d", code, got, want)
			}
		}
	}
}

func TestP08FirstUnsetWithEveryNumberOfSkippedInstructions(t *testing.T) {
	codes := []string{
		"arg 0 0; skip 0 1", "arg 0 0; skip 0 1; self 1; return 1", "arg 0 0; skip 0 1; self 1; return 1; return 0; return 1", "arg 0 0; skip 0 1; return 0; self 1; return 1; return 2", "skip 0 1; return 0",
		"arg 0 0; self 1; skip 0 1; self 2; set 0 1; return 2", "arg 0 0; skip 0 1; skip 0 1; self 1; self 2; return 2", "arg 0 0; skip 0 1; self 1; self 2; self 3; set 0 1; set 0 2; set 0 3", "arg 0 0; self 1; self 2; skip 0 1; return 1; set 0 0; return 3",
	}
	for _, text := range codes {
		base := p08Method(t, text)
		for place, x := range base.Code {
			if x.Op != p05Skip {
				continue
			}
			for _, n := range p08SkipNumbers() {
				m := impl.Method{Name: "get", Code: slices.Clone(base.Code)}
				m.Code[place].B = n
				p08Check(t, m, p08FirstUnset(m.Code))
			}
		}
	}
	// The same, written out for one method: only a skip over exactly one instruction leads to the return alone.
	for _, n := range p08SkipNumbers() {
		m := p08Method(t, "arg 0 0; skip 0 1; self 1; return 1; return 0")
		m.Code[1].B = n
		want := -1
		if n == 1 {
			want = 3
		}
		p08Check(t, m, want)
	}
}

func TestP08FirstUnsetWithInvalidRegisters(t *testing.T) {
	// A register is set by what has it as its TargetOf, whether it is one of the eight or not, but not if it is below 0: -1 is what TargetOf says of none.
	for _, reg := range append(p05Far(), -1, 0, 1, 7, 8, 9, 255, 256) {
		want := 1
		if reg >= 0 {
			want = -1
		}
		for _, writer := range []int{p05Const, p05Arg, p05Slot, p05Self} {
			for _, reader := range []impl.Instr{{Op: p05Return, A: reg}, {Op: p05Set, B: reg}, {Op: p05Skip, A: reg}, {Op: p05Add, A: 1, B: reg, C: reg}, {Op: p05Send, A: 1, B: reg, C: -1, D: -1}} {
				p08Check(t, impl.Method{Name: "get", Code: []impl.Instr{{Op: writer, A: reg}, reader}}, want)
				p08Check(t, impl.Method{Name: "get", Code: []impl.Instr{reader, {Op: writer, A: reg}}}, 0)
			}
		}
		// What has no target sets no register, and certainly not -1.
		code := append(p08AllSet(-1), impl.Instr{Op: p05Set, A: 1}, impl.Instr{Op: p05Skip, B: 1}, impl.Instr{}, impl.Instr{Op: 99, A: reg}, impl.Instr{Op: p05Return, A: reg})
		want = len(code) - 1
		if reg >= 0 && reg <= 7 {
			want = -1
		}
		p08Check(t, impl.Method{Name: "get", Code: code}, want)
	}
	// Registers that are not the same do not become the same.
	for _, pair := range [][2]int{{8, 0}, {0, 8}, {256, 0}, {0, 256}, {1 << 32, 0}, {0, 1 << 32}, {1<<32 + 3, 3}, {64, 0}, {0, 64}, {65, 1}, {-8, 0}, {0, -8}, {7, -1}} {
		p08Check(t, impl.Method{Name: "get", Code: []impl.Instr{{Op: p05Self, A: pair[0]}, {Op: p05Return, A: pair[1]}}}, 1)
	}
	// C and D at -1 are read by add, but not by send and new.
	p08Check(t, impl.Method{Name: "get", Code: []impl.Instr{{Op: p05Self}, {Op: p05Add, A: 1, C: -1, D: -1}}}, 1)
	p08Check(t, impl.Method{Name: "get", Code: []impl.Instr{{Op: p05Self}, {Op: p05Send, A: 1, C: -1, D: -1}, {Op: p05New, A: 2, C: -1, D: -1}, {Op: p05New, A: 2, C: -1}}}, -1)
	p08Check(t, impl.Method{Name: "get", Code: []impl.Instr{{Op: p05Self}, {Op: p05New, A: 2, C: -1, D: 3}}}, 1)
}

func TestP08FirstUnsetWithUnknownOperations(t *testing.T) {
	for _, op := range p05OtherOperations() {
		x := impl.Instr{Op: op, A: 1, B: 2, C: 3, D: 4, Name: "get"}
		// It reads nothing and sets nothing, and leads to the next one.
		p08Check(t, impl.Method{Name: "get", Code: []impl.Instr{x}}, -1)
		p08Check(t, impl.Method{Name: "get", Code: []impl.Instr{x, {Op: p05Return, A: 1}}}, 1)
		p08Check(t, impl.Method{Name: "get", Code: []impl.Instr{x, {Op: p05Self, A: 1}, x, {Op: p05Return, A: 1}}}, -1)
		p08Check(t, impl.Method{Name: "get", Code: []impl.Instr{x, {Op: p05Self, A: 1}, x, {Op: p05Return, A: 2}}}, 3)
	}
}

func TestP08FirstUnsetKnowsNoValidity(t *testing.T) {
	// Fields that a form does not allow, names that are none, and code that is too long.
	p08Check(t, impl.Method{Name: "Get", Code: []impl.Instr{{Op: p05Return, A: 1}}}, 0)
	p08Check(t, impl.Method{Code: []impl.Instr{{Op: p05Self, A: 1, B: 5}, {Op: p05Return, A: 1, Name: "x"}, {Op: p05Return, A: 2}}}, -1)
	p08Check(t, impl.Method{Code: []impl.Instr{{Op: p05Const, A: 1, B: -5}, {Op: p05Send, A: 2, B: 1, C: 1, D: 1}, {Op: p05New, A: 3, B: 9, C: 2, D: -1}, {Op: p05Set, A: 9, B: 4}}}, 3)
	for _, length := range []int{12, 13, 14, 300, 20000} {
		code := slices.Repeat([]impl.Instr{{Op: p05Self, A: 1}}, length)
		p08Check(t, impl.Method{Name: "get", Code: code}, -1)
		p08Check(t, impl.Method{Name: "get", Code: append(slices.Clone(code), impl.Instr{Op: p05Return, A: 1})}, -1)
		p08Check(t, impl.Method{Name: "get", Code: append(slices.Clone(code), impl.Instr{Op: p05Return, A: 2})}, length)
		// So many skips have more ways than could be walked one by one.
		code = slices.Repeat([]impl.Instr{{Op: p05Skip, B: 1}}, length)
		code[0] = impl.Instr{Op: p05Self}
		code = append(code, impl.Instr{Op: p05Self, A: 1}, impl.Instr{Op: p05Self, A: 2}, impl.Instr{Op: p05Set, B: 2})
		p08Check(t, impl.Method{Name: "get", Code: code}, -1)
		p08Check(t, impl.Method{Name: "get", Code: append(code, impl.Instr{Op: p05Set, B: 1})}, length+3)
	}
}

// p08EachCode calls visit with every code of at most maxLength of these instructions.
func p08EachCode(instrs []impl.Instr, maxLength int, visit func(code []impl.Instr)) {
	var extend func(code []impl.Instr)
	extend = func(code []impl.Instr) {
		visit(code)
		if len(code) == maxLength {
			return
		}
		for _, x := range instrs {
			extend(append(slices.Clone(code), x))
		}
	}
	extend([]impl.Instr{})
}

// p08SomeCodes calls visit with codes of up to 12 instructions that write, read, skip and return, made by a short rule.
func p08SomeCodes(visit func(code []impl.Instr)) {
	state := uint64(8)
	next := func(n int) int {
		state = state*6364136223846793005 + 1442695040888963407
		return int(state >> 33 % uint64(n))
	}
	// Low registers are more frequent, so that many a read finds what was set, and codes go on.
	reg := func() int {
		return min(next(3), next(3))
	}
	ops := []int{p05Const, p05Arg, p05Slot, p05Self, p05Add, p05Send, p05New, p05Set, p05Skip, p05Skip, p05Skip, p05Return}
	for round := range 40000 {
		code := []impl.Instr{{Op: p05Self, A: reg()}}
		for range round % 12 {
			x := impl.Instr{Op: ops[next(len(ops))], A: reg(), B: reg()}
			switch x.Op {
			case p05Add:
				x.C = reg()
			case p05Send, p05New:
				x.C, x.D = reg()-1, -1
			case p05Skip:
				x.B = next(6) - 1
			}
			code = append(code, x)
		}
		visit(code)
	}
}

func TestP08FirstUnsetOfManyMethods(t *testing.T) {
	instrs := []impl.Instr{
		{Op: p05Self}, {Op: p05Self, A: 1}, {Op: p05Set, B: 1}, {Op: p05Add, A: 1, C: 1}, {Op: p05Skip}, {Op: p05Skip, B: 1}, {Op: p05Skip, A: 1, B: 2}, {Op: p05Skip, B: -1}, {Op: p05Return}, {Op: p05Return, A: 1},
	}
	wrong := 0
	visit := func(code []impl.Instr) {
		got, want := impl.FirstUnset(impl.Method{Name: "get", Code: code}), p08FirstUnset(code)
		if got != want && wrong < 20 {
			t.Errorf("FirstUnset of %+v is %d, not %d", code, got, want)
			wrong++
		}
	}
	p08EachCode(instrs, 5, visit)
	p08SomeCodes(visit)
}

// The promise: up to the first unset register, no way reads what is not set, and there one does, whatever comes behind it.
func TestP08EverythingBeforeTheFirstUnsetRegisterIsSafe(t *testing.T) {
	places := map[int]int{}
	p08SomeCodes(func(code []impl.Instr) {
		first := impl.FirstUnset(impl.Method{Name: "get", Code: code})
		places[first]++
		for length := range len(code) + 1 {
			want := -1
			if first >= 0 && length > first {
				want = first
			}
			if got := impl.FirstUnset(impl.Method{Name: "get", Code: code[:length]}); got != want {
				t.Fatalf("FirstUnset of %+v is %d, but of the first %d it is %d", code, first, length, got)
			}
		}
		if first < 0 {
			return
		}
		// The rest may be anything, and if the missing ones are set at the start, the first place is another one.
		for _, x := range []impl.Instr{{Op: p05Return, A: 5}, {Op: p05Self}, {}} {
			if got := impl.FirstUnset(impl.Method{Name: "get", Code: append(slices.Clone(code[:first+1]), x)}); got != first {
				t.Fatalf("with %+v behind it, FirstUnset of %+v is %d", x, code[:first+1], got)
			}
		}
		if got := impl.FirstUnset(impl.Method{Name: "get", Code: append(p08AllSet(-1), code...)}); got != -1 {
			t.Fatalf("with all registers set, FirstUnset of %+v is %d", code, got)
		}
	})
	// The rule makes methods of all kinds, or the test would say little.
	for place := -1; place < 12; place++ {
		if place != 0 && places[place] < 5 {
			t.Errorf("only %d methods have %d as their first unset place", places[place], place)
		}
	}
}

func TestP08IsSafe(t *testing.T) {
	safe := p08Method(t, "self 1; return 1").Code
	unsafe := p08Method(t, "self 1; return 2").Code
	long := slices.Repeat(p08Method(t, "self 1").Code, 12)
	cases := []struct {
		m    impl.Method
		want bool
	}{
		{impl.Method{Name: "get", Code: safe}, true}, {impl.Method{Name: "get"}, true}, {impl.Method{Name: "a", Code: []impl.Instr{}}, true}, {impl.Method{Name: "abcdef", Code: long}, true},
		// valid, but not safe
		{impl.Method{Name: "get", Code: unsafe}, false}, {impl.Method{Name: "get", Code: p08Method(t, "return 0").Code}, false}, {impl.Method{Name: "get", Code: p08Method(t, "arg 0 0; skip 0 1; self 1; return 1").Code}, false},
		{impl.Method{Name: "get", Code: append(slices.Clone(long[:11]), impl.Instr{Op: p05Return})}, false}, {impl.Method{Name: "get", Code: p08Method(t, "set 0 1; self 1").Code}, false},
		// not valid, though FirstUnset is -1
		{impl.Method{}, false}, {impl.Method{Code: safe}, false}, {impl.Method{Name: "Get", Code: safe}, false}, {impl.Method{Name: "abcdefg", Code: safe}, false}, {impl.Method{Name: "get", Code: append(slices.Clone(long), long[0])}, false},
		{impl.Method{Name: "get", Code: []impl.Instr{{}}}, false}, {impl.Method{Name: "get", Code: []impl.Instr{{Op: p05Self, A: 8}}}, false}, {impl.Method{Name: "get", Code: []impl.Instr{{Op: p05Self, A: -1}}}, false},
		{impl.Method{Name: "get", Code: []impl.Instr{{Op: p05Self, A: 1}, {Op: p05Skip, A: 1}}}, false}, {impl.Method{Name: "get", Code: []impl.Instr{{Op: p05Self, A: 8}, {Op: p05Return, A: 8}}}, false}, {impl.Method{Name: "get", Code: []impl.Instr{{Op: 11}}}, false},
		// not valid, where no way leads
		{impl.Method{Name: "get", Code: append(slices.Clone(safe), impl.Instr{})}, false}, {impl.Method{Name: "get", Code: append(slices.Clone(safe), impl.Instr{Op: p05Return, A: 2})}, true},
		// neither
		{impl.Method{Code: unsafe}, false}, {impl.Method{Name: "Get", Code: unsafe}, false}, {impl.Method{Name: "get", Code: []impl.Instr{{Op: p05Return, A: 8}}}, false},
	}
	for _, c := range cases {
		if got := impl.IsSafe(c.m); got != c.want {
			t.Errorf("IsSafe of %+v is %v", c.m, got)
		}
	}
	for _, x := range p06NoInstrs() {
		if impl.IsSafe(impl.Method{Name: "get", Code: append(p08AllSet(-1), x)}) {
			t.Errorf("with %+v, a method is safe", x)
		}
	}
}

// p08Safe returns a library with these script names, each with so many methods, all safe and each different.
func p08Safe(methods int, names ...string) []impl.Script {
	l := []impl.Script{}
	for _, name := range names {
		l = append(l, impl.Script{Name: name, Methods: p06Methods(strings.Fields("a b c d e")[:methods]...)})
	}
	return l
}

func TestP08AreSafe(t *testing.T) {
	names := strings.Fields("f e d c b a")
	if !impl.AreSafe(nil) || !impl.AreSafe([]impl.Script{}) || !impl.AreSafe([]impl.Script{{Name: "cell"}}) {
		t.Error("without scripts, or without methods")
	}
	for scripts := 1; scripts <= 6; scripts++ {
		for methods := range 5 {
			l := p08Safe(methods, names[:scripts]...)
			if !impl.AreSafe(l) {
				t.Errorf("%d scripts of %d safe methods are not safe", scripts, methods)
			}
			for place := range scripts * methods {
				for _, code := range [][]impl.Instr{{{Op: p05Return}}, {{Op: p05Self}, {Op: p05Set, B: 1}}, p08Method(t, "arg 0 0; skip 0 1; self 1; return 1").Code} {
					l := p08Safe(methods, names[:scripts]...)
					l[place/methods].Methods[place%methods].Code = code
					if impl.AreSafe(l) {
						t.Errorf("with %+v at %d, %d scripts of %d methods are safe", code, place, scripts, methods)
					}
				}
			}
		}
	}
}

func TestP08AreSafeOfNoLibrary(t *testing.T) {
	// All methods that they have are safe, but they are no libraries.
	lists := [][]impl.Script{
		p08Safe(1, strings.Fields("a b c d e f g")...), p08Safe(0, strings.Fields("a b c d e f g")...), p08Safe(1, "cell", "cell"), p08Safe(0, "a", "b", "a"), p08Safe(5, "cell"), p08Safe(1, ""), p08Safe(1, "Cell"), p08Safe(0, "cell", "getting"),
		{{Name: "cell", Methods: p06Methods("get", "get")}}, {{Name: "cell", Methods: p06Methods("")}}, {{Name: "cell", Methods: make([]impl.Method, 1)}}, make([]impl.Script, 1),
		{{Name: "cell", Methods: []impl.Method{{Name: "get", Code: make([]impl.Instr, 1)}}}}, {{Name: "cell", Methods: []impl.Method{{Name: "get", Code: p06Code(13)}}}},
	}
	for _, l := range lists {
		if impl.AreSafe(l) {
			t.Errorf("%+v is no library, but safe", l)
		}
	}
	for _, s := range p07NoScripts() {
		for place := range 4 {
			if impl.AreSafe(slices.Insert(p08Safe(2, "f", "e", "d"), place, s)) {
				t.Errorf("with %+v at %d, a library is safe", s, place)
			}
		}
	}
}

// p08Maker returns a script whose methods make scripts: the names of one method are separated by spaces, those of several by semicolons.
func p08Maker(name string, made string) impl.Script {
	s := impl.Script{Name: name}
	for i, names := range strings.Split(made, ";") {
		m := impl.Method{Name: string(rune('a' + i))}
		for _, made := range strings.Fields(names) {
			m.Code = append(m.Code, impl.Instr{Op: p05Self}, impl.Instr{Op: p05New, A: 1, C: 0, D: -1, Name: made})
		}
		s.Methods = append(s.Methods, m)
	}
	return s
}

func TestP08MadeBy(t *testing.T) {
	cases := []struct{ made, want string }{
		{"", ""}, {";", ""}, {";;;", ""}, {"cell", "cell"}, {"cell gate", "cell gate"}, {"gate cell", "gate cell"}, {"d b c a", "d b c a"}, {"z y x;w v u", "z y x w v u"}, {"a;b;c;d", "a b c d"}, {"d;c;b;a", "d c b a"},
		// several times in one method, and in several
		{"cell cell", "cell"}, {"cell gate cell", "cell gate"}, {"gate cell cell gate", "gate cell"}, {"a a b b a a", "a b"}, {"cell;cell", "cell"}, {"cell;gate;cell", "cell gate"}, {"b a;a b", "b a"}, {"b;a;b;a", "b a"}, {"c b;b a;a c", "c b a"}, {";;cell;cell", "cell"},
		// names that are alike
		{"cell cel ce c", "cell cel ce c"}, {"c ce cel cell", "c ce cel cell"}, {"Cell cell CELL cell", "Cell cell CELL"},
		// the script itself, and names of methods
		{"maker", "maker"}, {"cell maker cell maker", "cell maker"}, {"a b;a", "a b"},
	}
	for _, c := range cases {
		for _, name := range []string{"maker", "cell", "", "Maker"} {
			if got := impl.MadeBy(p08Maker(name, c.made)); !slices.Equal(got, strings.Fields(c.want)) {
				t.Errorf("MadeBy of %q with %q is %q", name, c.made, got)
			}
		}
	}
	for _, s := range []impl.Script{{}, {Name: "cell"}, {Name: "cell", Methods: []impl.Method{}}, {Name: "cell", Methods: make([]impl.Method, 3)}, p07Cell()} {
		want := []string{}
		if len(s.Methods) > 0 && len(s.Methods[0].Code) > 0 {
			want = append(want, "cell")
		}
		if got := impl.MadeBy(s); !slices.Equal(got, want) {
			t.Errorf("MadeBy of %+v is %q", s, got)
		}
	}
}

func TestP08MadeByEveryOperation(t *testing.T) {
	for _, op := range append(p05Operations(), p05OtherOperations()...) {
		for _, name := range append(p05NotNames(), "cell") {
			want := []string{}
			if op == p05New {
				want = append(want, name)
			}
			// A name counts as it is, and so does an instruction, valid or not, and where no way leads.
			for _, x := range []impl.Instr{{Op: op, Name: name}, {Op: op, A: 1, C: -1, D: -1, Name: name}, {Op: op, A: 9, B: 9, C: -1, D: 9, Name: name}} {
				for _, code := range [][]impl.Instr{{x}, {x, x}, {{Op: p05Return}, x}, append(p06Code(13), x)} {
					if got := impl.MadeBy(impl.Script{Name: "maker", Methods: []impl.Method{{}, {Name: "get", Code: code}}}); !slices.Equal(got, want) {
						t.Errorf("MadeBy of %+v is %q", code, got)
					}
				}
			}
		}
	}
	// Among instructions of all kinds, with a name each.
	m := impl.Method{Name: "get"}
	for _, op := range p05Operations() {
		m.Code = append(m.Code, impl.Instr{Op: op, Name: impl.OpName(op)})
	}
	if got := impl.MadeBy(impl.Script{Methods: []impl.Method{m, {Name: "other", Code: []impl.Instr{{Op: p05Send, Name: "gate"}, {Op: p05New, Name: "cell"}}}}}); !slices.Equal(got, []string{"new", "cell"}) {
		t.Errorf("MadeBy is %q", got)
	}
}

func TestP08MadeByManyNames(t *testing.T) {
	names := []string{}
	s := impl.Script{Name: "maker"}
	for i := range 300 {
		names = append(names, fmt.Sprint("name", i*7%300))
		s.Methods = append(s.Methods, p08Maker("", names[i]+" "+names[i/2]+" "+names[0]).Methods...)
	}
	if got := impl.MadeBy(s); !slices.Equal(got, names) {
		t.Errorf("MadeBy is %q", got)
	}
}

func TestP08MadeBySharesNoMemory(t *testing.T) {
	for _, made := range []string{"cell", "cell gate", "d c b a;a b", "a a a"} {
		s := p08Maker("maker", made)
		first, second := impl.MadeBy(s), impl.MadeBy(s)
		want := slices.Clone(second)
		room := first[:cap(first)]
		for i := range room {
			room[i] = "other"
		}
		if !slices.Equal(second, want) || !slices.Equal(impl.MadeBy(s), want) || !impl.EqualScripts(s, p08Maker("maker", made)) {
			t.Errorf("with the answer, %q has become %q, or the script %+v", want, second, s)
		}
		s.Methods[0].Code[1].Name = "other"
		if !slices.Equal(second, want) {
			t.Errorf("with the script, %q has become %q", want, second)
		}
	}
}

func TestP08AreKnown(t *testing.T) {
	cases := []struct {
		names string
		made  []string
		want  bool
	}{
		{"", nil, true}, {"a", []string{""}, true}, {"a", []string{"a"}, true}, {"a", []string{"b"}, false}, {"a", []string{"a a;a"}, true}, {"a", []string{"a;b"}, false}, {"a", []string{"b;a"}, false}, {"a", []string{"a b"}, false},
		// they make each other
		{"a b", []string{"b", "a"}, true}, {"a b", []string{"a", "b"}, true}, {"a b c", []string{"b", "c", "a"}, true}, {"a b c", []string{"c b a", "a;b;c", ""}, true}, {"c b a", []string{"a b", "c", "b"}, true},
		// one name that is no script's, in the first, a middle or the last script
		{"a b c", []string{"d", "", ""}, false}, {"a b c", []string{"", "d", ""}, false}, {"a b c", []string{"", "", "d"}, false}, {"a b c", []string{"a b c", "a b d", "a b c"}, false}, {"a b c", []string{"a;b;d", "a", "a"}, false}, {"a b c", []string{"a", "a", "a b c d"}, false},
		// names that are alike, and names of methods
		{"cell", []string{"cel"}, false}, {"cell", []string{"cells"}, false}, {"cell", []string{"Cell"}, false}, {"cell gate", []string{"gate", "cellgate"}, false}, {"cell", []string{"a"}, false}, {"cell", []string{"cell;a"}, false},
		// no libraries: names twice, names that are none, and too many scripts
		{"a a", []string{"a", "a"}, true}, {"a a", []string{"", "b"}, false}, {"a b a", []string{"b", "a", "a b"}, true}, {"Cell x1", []string{"x1", "Cell"}, true}, {"Cell", []string{"cell"}, false}, {"getting", []string{"getting"}, true},
		{"a b c d e f g h", []string{"h", "g", "f", "e", "d", "c", "b", "a"}, true}, {"a b c d e f g h", []string{"", "", "", "", "", "", "", "i"}, false}, {"a b", []string{"a;b;a;b;a;b", "a"}, true},
	}
	for _, c := range cases {
		l := []impl.Script{}
		for i, name := range strings.Fields(c.names) {
			l = append(l, p08Maker(name, c.made[i]))
		}
		if got := impl.AreKnown(l); got != c.want {
			t.Errorf("AreKnown of %q with %q is %v", c.names, c.made, got)
		}
	}
	if !impl.AreKnown(nil) || !impl.AreKnown([]impl.Script{{}}) || !impl.AreKnown([]impl.Script{{Name: "a"}, {Name: "a"}}) {
		t.Error("without anything that is made")
	}
}

func TestP08AreKnownWithOtherInstructions(t *testing.T) {
	makes := func(name string, x impl.Instr) impl.Script {
		return impl.Script{Name: name, Methods: []impl.Method{{Name: "get", Code: []impl.Instr{x}}}}
	}
	// The names of messages are no scripts.
	for _, op := range append(p05Operations(), p05OtherOperations()...) {
		if got := impl.AreKnown([]impl.Script{makes("cell", impl.Instr{Op: op, Name: "gate"})}); got != (op != p05New) {
			t.Errorf("with %d and a name that is no script's, AreKnown is %v", op, got)
		}
	}
	// The empty name is that of a script, too, if one has it; and what is made need not be valid or safe.
	empty := impl.Instr{Op: p05New}
	if impl.AreKnown([]impl.Script{makes("cell", empty)}) || !impl.AreKnown([]impl.Script{makes("", empty)}) || !impl.AreKnown([]impl.Script{makes("cell", empty), {}}) {
		t.Error("the empty name")
	}
	if !impl.AreKnown([]impl.Script{makes("cell", impl.Instr{Op: p05New, A: 9, B: 9, C: 9, D: 9, Name: "cell"})}) {
		t.Error("an instruction that is not valid")
	}
	// A script need not make itself, nor anything at all.
	if impl.AreKnown([]impl.Script{makes("cell", impl.Instr{Op: p05New, C: -1, D: -1, Name: "gate"}), {Name: "meter"}}) || !impl.AreKnown([]impl.Script{makes("cell", impl.Instr{Op: p05New, C: -1, D: -1, Name: "gate"}), {Name: "gate"}}) {
		t.Error("one script makes another one")
	}
}

func TestP08NothingIsChanged(t *testing.T) {
	build := func() []impl.Script {
		l := append(p06SomeScripts(), p07Cell(), p08Maker("maker", "cell gate;cell"))
		// Code with room behind it, where an append could leave something.
		l[0].Methods[0].Code = p06Code(5)[:3]
		return l
	}
	l := build()
	for _, list := range [][]impl.Script{l, l[:1], l[1:2], l[5:]} {
		impl.AreSafe(list)
		impl.AreKnown(list)
	}
	for _, s := range l {
		impl.MadeBy(s)
		for _, m := range s.Methods {
			impl.IsSafe(m)
			impl.FirstUnset(m)
			impl.Writes(m, 1)
		}
	}
	if !slices.EqualFunc(l, build(), impl.EqualScripts) || !slices.Equal(l[0].Methods[0].Code[:5], p06Code(5)) {
		t.Errorf("the scripts have become %+v", l)
	}
}
