package tests

import (
	"fmt"
	"maps"
	"math"
	"reflect"
	"slices"
	"testing"

	"loop.example/g00591/impl"
)

func p10Export(pos, entity, count int) impl.Export {
	return impl.Export{Pos: pos, Entity: entity, Count: count}
}

func p10Entry(id, promise int) impl.Question { return impl.Question{Id: id, Promise: promise} }

// p10Full has every field set, no two of them alike.
func p10Full() impl.Link {
	return impl.Link{
		Peer: 2, Up: true, Exports: []impl.Export{p10Export(11, 21, 31), p10Export(12, 22, 32), p10Export(13, 23, 33)}, Next: 14,
		Questions: []impl.Question{p10Entry(41, 51), p10Entry(42, 52), p10Entry(43, 53)}, Asked: 44,
		Answers: []impl.Question{p10Entry(61, 71), p10Entry(62, 72), p10Entry(63, 73)},
	}
}

// p10With is the full link with these exports, so that a field that gets lost is missed.
func p10With(exports ...impl.Export) impl.Link {
	l := p10Full()
	l.Exports = exports
	return l
}

func p10Clone(l impl.Link) impl.Link {
	return p09WithoutEmpty(reflect.ValueOf(l)).Interface().(impl.Link)
}

// p10Same compares without the program, with nil and empty slices taken for one.
func p10Same(a, b impl.Link) bool {
	return a.Peer == b.Peer && a.Up == b.Up && a.Next == b.Next && a.Asked == b.Asked &&
		slices.Equal(a.Exports, b.Exports) && slices.Equal(a.Questions, b.Questions) && slices.Equal(a.Answers, b.Answers)
}

// p10Extremes are numbers around 0 and around the limits of several types.
func p10Extremes() []int {
	return []int{
		0, 1, 2, 3, 7, 17, 100, 127, 128, 255, 256, 257, 1 << 16, 999999, 1000000, 1<<31 - 1, 1 << 31, 1 << 32, 1<<32 + 1, math.MaxInt64 - 1, math.MaxInt64,
		-1, -2, -3, -128, -256, -1 << 31, -1 << 32, math.MinInt64 + 1, math.MinInt64,
	}
}

// p10EachList visits all lists of at most this many elements of a pool.
func p10EachList[T any](pool []T, maxLength int, visit func(list []T)) {
	lists := [][]T{{}}
	for i := 0; i < len(lists); i++ {
		visit(lists[i])
		if len(lists[i]) < maxLength {
			for _, x := range pool {
				lists = append(lists, append(slices.Clone(lists[i]), x))
			}
		}
	}
}

// p10ExportPool has exports of which many have the same Pos, Entity or Count.
func p10ExportPool() []impl.Export {
	return []impl.Export{
		p10Export(1, 7, 1), p10Export(2, 7, 2), p10Export(1, 9, 3), p10Export(2, 0, 1), p10Export(0, 7, 2), p10Export(3, -1, 1),
		p10Export(-1, 9, 2), p10Export(1, 7, 0), p10Export(2, 9, -1), p10Export(0, 0, 0), p10Export(3, 7, math.MinInt64), p10Export(1, 9, math.MaxInt64),
	}
}

// p10EntryPool has entries of which many have the same Id or Promise.
func p10EntryPool() []impl.Question {
	return []impl.Question{p10Entry(1, 5), p10Entry(1, 6), p10Entry(2, 5), p10Entry(0, 1), p10Entry(-1, 0), p10Entry(2, -1), p10Entry(math.MinInt64, math.MaxInt64)}
}

// p10Put and p10Release say what the chapter says, from the last export to the first one, so that the first one decides.
func p10Put(l impl.Link, entity int) (impl.Link, int) {
	place := len(l.Exports)
	for i := len(l.Exports) - 1; i >= 0; i-- {
		if l.Exports[i].Entity == entity {
			place = i
		}
	}
	want := p10Clone(l)
	if place < len(l.Exports) {
		want.Exports[place].Count = l.Exports[place].Count + 1
	} else {
		want.Next = l.Next + 1
		want.Exports = append(want.Exports, p10Export(want.Next, entity, 1))
	}
	return want, want.Exports[place].Pos
}

func p10Release(l impl.Link, pos int, count int) impl.Link {
	want := p10Clone(l)
	if count <= 0 {
		return want
	}
	place := -1
	for i := len(l.Exports) - 1; i >= 0; i-- {
		if l.Exports[i].Pos == pos {
			place = i
		}
	}
	if place == -1 {
		return want
	}
	want.Exports[place].Count -= count
	if want.Exports[place].Count <= 0 {
		want.Exports = slices.Delete(want.Exports, place, place+1)
	}
	return want
}

func p10ExpectPut(t *testing.T, l impl.Link, entity int, want impl.Link, wantPos int) {
	t.Helper()
	if got, pos := impl.PutExport(l, entity); !p10Same(got, want) || pos != wantPos {
		t.Errorf("PutExport of %d in %+v is %+v, %d, not %+v, %d", entity, l, got, pos, want, wantPos)
	}
}

func p10ExpectReleased(t *testing.T, l impl.Link, pos int, count int, want impl.Link) {
	t.Helper()
	if got := impl.ReleaseExport(l, pos, count); !p10Same(got, want) {
		t.Errorf("ReleaseExport of %d, %d in %+v is %+v, not %+v", pos, count, l, got, want)
	}
}

func TestP10NewLink(t *testing.T) {
	for _, peer := range p10Extremes() {
		got := impl.NewLink(peer)
		if !p10Same(got, impl.Link{Peer: peer, Up: true}) {
			t.Errorf("NewLink(%d) is %+v", peer, got)
		}
		if impl.FindExport(got, 0) != -1 || impl.FindExport(got, 1) != -1 || impl.PosOf(got, 0) != 0 || impl.FindEntry(got.Questions, 0) != -1 || impl.FindEntry(got.Answers, 0) != -1 {
			t.Errorf("something is found in NewLink(%d)", peer)
		}
	}
}

func TestP10NewLinksAreApart(t *testing.T) {
	first, second := impl.NewLink(1), impl.NewLink(1)
	first.Exports = append(first.Exports, p10Export(1, 2, 3))
	first.Questions = append(first.Questions, p10Entry(1, 2))
	if len(first.Answers) != 0 || !p10Same(second, impl.Link{Peer: 1, Up: true}) || !p10Same(impl.NewLink(1), second) {
		t.Errorf("with the first link, the second one has become %+v", second)
	}
}

func TestP10FindExport(t *testing.T) {
	l := p10With(p10Export(5, 50, 1), p10Export(2, 20, 2), p10Export(9, 90, 1), p10Export(2, 21, 3), p10Export(0, 10, 1), p10Export(-1, 11, 1), p10Export(7, 0, 1), p10Export(8, -1, 1), p10Export(6, -60, 0), p10Export(9, 91, 1))
	cases := map[int]int{
		// the first, a middle and the last one of them that are found
		5: 50, 9: 90, 6: -60,
		// the first of several, also with a smaller Count
		2: 20,
		// what is 0 or negative
		0: 10, -1: 11, 7: 0, 8: -1,
		// not there, among them entities, Counts and the ids of questions
		1: -1, 3: -1, 4: -1, 10: -1, 50: -1, 20: -1, -2: -1, -5: -1, 41: -1, 61: -1, 14: -1, 44: -1, 1<<32 + 5: -1, math.MaxInt64: -1, math.MinInt64: -1,
	}
	for pos, want := range cases {
		if got := impl.FindExport(l, pos); got != want {
			t.Errorf("FindExport of %d is %d, not %d", pos, got, want)
		}
		for _, none := range []impl.Link{{}, p10With(), {Exports: []impl.Export{}}, impl.NewLink(pos)} {
			if got := impl.FindExport(none, pos); got != -1 {
				t.Errorf("without exports, FindExport of %d is %d", pos, got)
			}
		}
	}
}

func TestP10PosOf(t *testing.T) {
	l := p10With(p10Export(5, 50, 1), p10Export(2, 20, 2), p10Export(9, 90, 1), p10Export(1, 20, 3), p10Export(3, 0, 1), p10Export(4, -1, 1), p10Export(0, 70, 1), p10Export(-1, 80, 1), p10Export(-6, -60, 0), p10Export(8, 90, 1))
	cases := map[int]int{
		// the first, a middle and the last one of them that are found
		50: 5, 90: 9, -60: -6,
		// the first of several, also with a greater Pos and a smaller Count
		20: 2,
		// what is 0 or negative
		0: 3, -1: 4, 70: 0, 80: -1,
		// not there
		1: 0, 2: 0, 5: 0, 9: 0, 51: 0, -2: 0, -50: 0, 71: 0, 14: 0, 44: 0, 1<<32 + 50: 0, math.MaxInt64: 0, math.MinInt64: 0,
	}
	for entity, want := range cases {
		if got := impl.PosOf(l, entity); got != want {
			t.Errorf("PosOf of %d is %d, not %d", entity, got, want)
		}
		for _, none := range []impl.Link{{}, p10With(), {Exports: []impl.Export{}}, impl.NewLink(entity)} {
			if got := impl.PosOf(none, entity); got != 0 {
				t.Errorf("without exports, PosOf of %d is %d", entity, got)
			}
		}
	}
}

func TestP10FindingInEveryList(t *testing.T) {
	p10EachList(p10ExportPool(), 3, func(list []impl.Export) {
		for _, up := range []bool{false, true} {
			l := impl.Link{Up: up, Exports: list}
			for n := -2; n <= 10; n++ {
				entity, pos := -1, 0
				for i := len(list) - 1; i >= 0; i-- {
					if list[i].Pos == n {
						entity = list[i].Entity
					}
					if list[i].Entity == n {
						pos = list[i].Pos
					}
				}
				if impl.FindExport(l, n) != entity || impl.PosOf(l, n) != pos {
					t.Fatalf("in %v, FindExport of %d is %d and PosOf %d", list, n, impl.FindExport(l, n), impl.PosOf(l, n))
				}
			}
		}
	})
}

func TestP10PutExport(t *testing.T) {
	a, b, c := p10Export(3, 7, 2), p10Export(5, 9, 1), p10Export(4, 7, 6)
	add := func(l impl.Link, x impl.Export) impl.Link {
		l.Next, l.Exports = x.Pos, append(slices.Clone(l.Exports), x)
		return l
	}
	// not exported yet: behind the others, with the next Pos
	p10ExpectPut(t, impl.NewLink(3), 7, impl.Link{Peer: 3, Up: true, Exports: []impl.Export{p10Export(1, 7, 1)}, Next: 1}, 1)
	p10ExpectPut(t, p10With(), 7, add(p10With(), p10Export(15, 7, 1)), 15)
	p10ExpectPut(t, p10With(a, b), 8, add(p10With(a, b), p10Export(15, 8, 1)), 15)
	for _, entity := range []int{0, -1, -7, 3, 5, 1<<32 + 7, math.MaxInt64, math.MinInt64} {
		p10ExpectPut(t, p10With(a, b), entity, add(p10With(a, b), p10Export(15, entity, 1)), 15)
	}
	// exported once: first, in the middle and last
	p10ExpectPut(t, p10With(a, b), 7, p10With(p10Export(3, 7, 3), b), 3)
	p10ExpectPut(t, p10With(a, b, p10Export(6, 8, 1)), 9, p10With(a, p10Export(5, 9, 2), p10Export(6, 8, 1)), 5)
	p10ExpectPut(t, p10With(a, b), 9, p10With(a, p10Export(5, 9, 2)), 5)
	// several exports of the entity: only the first counts one more
	p10ExpectPut(t, p10With(a, b, c), 7, p10With(p10Export(3, 7, 3), b, c), 3)
	p10ExpectPut(t, p10With(b, c, a), 7, p10With(b, p10Export(4, 7, 7), a), 4)
	p10ExpectPut(t, p10With(c, c), 7, p10With(p10Export(4, 7, 7), c), 4)
}

func TestP10PutExportWithOddNumbers(t *testing.T) {
	// The entity counts: a Pos of 0 is not taken for a missing export, and entities may be 0 or negative.
	for _, pos := range p10Extremes() {
		for _, entity := range p10Extremes() {
			p10ExpectPut(t, p10With(p10Export(pos, entity, 4)), entity, p10With(p10Export(pos, entity, 5)), pos)
		}
	}
	// A Count of any size is one more afterwards, and wraps around behind the greatest integer.
	for _, count := range p10Extremes() {
		p10ExpectPut(t, p10With(p10Export(3, 7, count)), 7, p10With(p10Export(3, 7, count+1)), 3)
	}
	p10ExpectPut(t, p10With(p10Export(3, 7, math.MaxInt64)), 7, p10With(p10Export(3, 7, math.MinInt64)), 3)
	for _, next := range p10Extremes() {
		l, want := p10With(p10Export(3, 7, 1)), p10With(p10Export(3, 7, 1), p10Export(next+1, 8, 1))
		l.Next, want.Next = next, next+1
		p10ExpectPut(t, l, 8, want, next+1)
		// Next stays, if nothing is added.
		same := p10With(p10Export(3, 7, 2))
		same.Next = next
		p10ExpectPut(t, l, 7, same, 3)
	}
	last := impl.Link{Next: math.MaxInt64}
	p10ExpectPut(t, last, 7, impl.Link{Exports: []impl.Export{p10Export(math.MinInt64, 7, 1)}, Next: math.MinInt64}, math.MinInt64)
	// A Pos that is there already is given all the same: only Next counts.
	taken := impl.Link{Exports: []impl.Export{p10Export(5, 7, 1)}, Next: 4}
	p10ExpectPut(t, taken, 8, impl.Link{Exports: []impl.Export{p10Export(5, 7, 1), p10Export(5, 8, 1)}, Next: 5}, 5)
}

func TestP10LinksThatAreNotUp(t *testing.T) {
	down := p10With(p10Export(3, 7, 2), p10Export(4, 8, 1))
	down.Up = false
	more, other, less, none, asked := p10Clone(down), p10Clone(down), p10Clone(down), p10Clone(down), p10Clone(down)
	more.Exports[0].Count = 3
	other.Exports, other.Next = append(other.Exports, p10Export(15, 9, 1)), 15
	less.Exports[0].Count = 1
	none.Exports = none.Exports[1:]
	asked.Questions, asked.Asked = append(asked.Questions, p10Entry(45, 6)), 45
	p10ExpectPut(t, down, 7, more, 3)
	p10ExpectPut(t, down, 9, other, 15)
	p10ExpectPut(t, impl.Link{}, 9, impl.Link{Exports: []impl.Export{p10Export(1, 9, 1)}, Next: 1}, 1)
	p10ExpectReleased(t, down, 3, 1, less)
	p10ExpectReleased(t, down, 3, 2, none)
	p10ExpectReleased(t, down, 5, 2, down)
	if got, id := impl.PutQuestion(down, 6); !p10Same(got, asked) || id != 45 {
		t.Errorf("PutQuestion is %+v, %d", got, id)
	}
	if impl.FindExport(down, 4) != 8 || impl.PosOf(down, 8) != 4 {
		t.Error("what a link that is not Up exports is not found")
	}
}

func TestP10ReleaseExport(t *testing.T) {
	a, b, c := p10Export(3, 7, 5), p10Export(6, 9, 1), p10Export(4, 8, 2)
	all := p10With(a, b, c)
	// a count below Count, equal to it, and above it
	p10ExpectReleased(t, all, 3, 1, p10With(p10Export(3, 7, 4), b, c))
	p10ExpectReleased(t, all, 3, 4, p10With(p10Export(3, 7, 1), b, c))
	for _, count := range []int{5, 6, 7, 100, 1 << 32, math.MaxInt64 - 1, math.MaxInt64} {
		p10ExpectReleased(t, all, 3, count, p10With(b, c))
		p10ExpectReleased(t, all, 6, count, p10With(a, c))
		p10ExpectReleased(t, all, 4, count, p10With(a, b))
		p10ExpectReleased(t, p10With(a), 3, count, p10With())
	}
	p10ExpectReleased(t, all, 6, 1, p10With(a, c))
	p10ExpectReleased(t, all, 4, 1, p10With(a, b, p10Export(4, 8, 1)))
	p10ExpectReleased(t, all, 4, 2, p10With(a, b))
	// nothing is released
	for _, count := range []int{0, -1, -2, -5, -1 << 32, math.MinInt64 + 1, math.MinInt64} {
		for _, pos := range []int{3, 6, 4, 5, 0, -3} {
			p10ExpectReleased(t, all, pos, count, all)
		}
	}
	// a Pos that is not there, among them entities, Counts, places and the ids of questions
	for _, pos := range []int{0, 1, 2, 5, 7, 8, 9, 14, 41, 44, 61, -1, -3, -4, 1<<32 + 3, math.MaxInt64, math.MinInt64} {
		for _, count := range []int{1, 2, 5, math.MaxInt64, 0, -1} {
			p10ExpectReleased(t, all, pos, count, all)
			p10ExpectReleased(t, p10With(), pos, count, p10With())
			p10ExpectReleased(t, impl.Link{}, pos, count, impl.Link{})
		}
	}
}

func TestP10ReleaseExportOfSeveral(t *testing.T) {
	a, b, c := p10Export(3, 7, 5), p10Export(3, 8, 1), p10Export(3, 7, 2)
	other := p10Export(4, 7, 1)
	// of several exports of a Pos, the first counts, and the others then come to light
	p10ExpectReleased(t, p10With(a, b, c), 3, 2, p10With(p10Export(3, 7, 3), b, c))
	p10ExpectReleased(t, p10With(a, b, c), 3, 5, p10With(b, c))
	p10ExpectReleased(t, p10With(a, b, c), 3, 99, p10With(b, c))
	p10ExpectReleased(t, p10With(other, b, a, c), 3, 1, p10With(other, a, c))
	p10ExpectReleased(t, p10With(c, c, c), 3, 2, p10With(c, c))
	p10ExpectReleased(t, p10With(other, c, other, c), 3, 1, p10With(other, p10Export(3, 7, 1), other, c))
	// of several exports of an entity, the one with the Pos counts
	p10ExpectReleased(t, p10With(a, other), 4, 1, p10With(a))
	p10ExpectReleased(t, p10With(other, a), 3, 1, p10With(other, p10Export(3, 7, 4)))
	if got := impl.FindExport(impl.ReleaseExport(p10With(a, b, c), 3, 5), 3); got != 8 {
		t.Errorf("behind the first export of a Pos, FindExport is %d", got)
	}
}

func TestP10ReleaseExportWithOddNumbers(t *testing.T) {
	// exports with a Pos or an entity that is 0 or negative are released as others are
	for _, pos := range p10Extremes() {
		for _, entity := range []int{0, -1, pos, math.MinInt64} {
			p10ExpectReleased(t, p10With(p10Export(pos, entity, 3)), pos, 2, p10With(p10Export(pos, entity, 1)))
			p10ExpectReleased(t, p10With(p10Export(pos, entity, 3)), pos, 3, p10With())
		}
	}
	// a Count that is 0 or negative already: removed by any release, unless the difference wraps around
	for _, count := range []int{0, -1, -2, -100, -1 << 32} {
		for _, less := range []int{1, 2, 100, 1 << 32} {
			p10ExpectReleased(t, p10With(p10Export(3, 7, count), p10Export(4, 8, 1)), 3, less, p10With(p10Export(4, 8, 1)))
		}
		for _, less := range []int{0, -1, -100, math.MinInt64} {
			p10ExpectReleased(t, p10With(p10Export(3, 7, count)), 3, less, p10With(p10Export(3, 7, count)))
		}
	}
	cases := []struct {
		count, less, left int // left 0 stands for an export that is removed
	}{
		{math.MaxInt64, 1, math.MaxInt64 - 1}, {math.MaxInt64, math.MaxInt64 - 1, 1}, {math.MaxInt64, math.MaxInt64, 0}, {math.MaxInt64 - 1, math.MaxInt64, 0},
		{0, math.MaxInt64, 0}, {-1, math.MaxInt64, 0}, {-1, math.MaxInt64 - 1, 0},
		// the difference is less than the least integer
		{-2, math.MaxInt64, math.MaxInt64}, {-3, math.MaxInt64 - 1, math.MaxInt64}, {-3, math.MaxInt64, math.MaxInt64 - 1},
		{math.MinInt64, 1, math.MaxInt64}, {math.MinInt64, 2, math.MaxInt64 - 1}, {math.MinInt64 + 1, 1, 0}, {math.MinInt64 + 1, 2, math.MaxInt64},
		{math.MinInt64, math.MaxInt64, 1}, {math.MinInt64 + 1, math.MaxInt64, 2}, {math.MinInt64, math.MaxInt64 - 1, 2},
		// nothing is lost of large numbers
		{1 << 32, 1, 1<<32 - 1}, {1<<32 + 1, 1 << 32, 1}, {1 << 32, 1<<32 - 1, 1}, {256, 255, 1}, {1 << 53, 1, 1<<53 - 1}, {1<<62 + 1, 1 << 62, 1},
	}
	for _, c := range cases {
		want := p10With(p10Export(2, 6, 1), p10Export(4, 8, 1))
		if c.left != 0 {
			want = p10With(p10Export(2, 6, 1), p10Export(3, 7, c.left), p10Export(4, 8, 1))
		}
		p10ExpectReleased(t, p10With(p10Export(2, 6, 1), p10Export(3, 7, c.count), p10Export(4, 8, 1)), 3, c.less, want)
	}
}

func TestP10OrderBehindARemoval(t *testing.T) {
	// Many exports, neither their positions nor their entities in ascending order.
	list := []impl.Export{}
	for i := range 150 {
		list = append(list, p10Export(p10ScatteredPos(i), 1000-i*7%149, 1+i%3))
	}
	for i, x := range list {
		want := append(slices.Clone(list[:i]), list[i+1:]...)
		p10ExpectReleased(t, p10With(list...), x.Pos, 3, p10With(want...))
		less := slices.Clone(list)
		less[i].Count--
		if less[i].Count == 0 {
			less = want
		}
		p10ExpectReleased(t, p10With(list...), x.Pos, 1, p10With(less...))
	}
	// One after the other, until there is none.
	l := p10With(list...)
	for len(list) > 0 {
		i := len(list) * 3 / 7
		l = impl.ReleaseExport(l, list[i].Pos, list[i].Count)
		list = slices.Delete(list, i, i+1)
		if !p10Same(l, p10With(list...)) {
			t.Fatalf("with %d exports left, the link is %+v", len(list), l)
		}
	}
}

// p10ScatteredPos is another number for each of the first 151, some of them below 0.
func p10ScatteredPos(i int) int { return i*37%151 - 20 }

func TestP10PutAndReleaseInEveryList(t *testing.T) {
	p10EachList(p10ExportPool(), 3, func(list []impl.Export) {
		l := p10With(list...)
		l.Next = len(list) - 1
		for n := -2; n <= 10; n++ {
			want, pos := p10Put(l, n)
			p10ExpectPut(t, l, n, want, pos)
			if n > 4 {
				continue
			}
			for _, count := range []int{1, 2, 3, math.MaxInt64, 0, -1, math.MinInt64} {
				p10ExpectReleased(t, l, n, count, p10Release(l, n, count))
			}
		}
		if t.Failed() {
			t.FailNow()
		}
	})
}

func TestP10PutAndReleaseOfExtremes(t *testing.T) {
	for _, first := range p10Extremes() {
		for _, second := range p10Extremes() {
			l := p10With(p10Export(1, 2, 1), p10Export(first, second, first))
			l.Next = second
			for _, n := range p10Extremes() {
				want, pos := p10Put(l, n)
				p10ExpectPut(t, l, n, want, pos)
				p10ExpectReleased(t, l, first, n, p10Release(l, first, n))
				p10ExpectReleased(t, l, n, second, p10Release(l, n, second))
			}
		}
	}
}

// The promise, for an export by itself: it is found until it was released as often as it was sent, in whatever parts.
func TestP10AnExportIsFoundUntilItWasReleasedAsOften(t *testing.T) {
	for times := 1; times <= 7; times++ {
		l := impl.NewLink(2)
		l, _ = impl.PutExport(l, 30)
		for range times {
			var pos int
			if l, pos = impl.PutExport(l, 40); pos != 2 {
				t.Fatalf("the Pos is %d", pos)
			}
		}
		l, _ = impl.PutExport(l, 50)
		p10EachPart(times+2, func(parts []int) {
			x, left := l, times
			for _, part := range parts {
				x, left = impl.ReleaseExport(x, 2, part), left-part
				found, pos := 40, 2
				if left <= 0 {
					found, pos = -1, 0
				}
				if impl.FindExport(x, 2) != found || impl.PosOf(x, 40) != pos || impl.FindExport(x, 1) != 30 || impl.FindExport(x, 3) != 50 || x.Next != 3 {
					t.Fatalf("sent %d times and released %v, of which %d are left: %+v", times, parts, left, x)
				}
			}
			if x, pos := impl.PutExport(x, 40); pos != 4 || impl.FindExport(x, 4) != 40 || impl.FindExport(x, 2) != -1 || x.Next != 4 {
				t.Fatalf("exported again after a removal, it has the Pos %d in %+v", pos, x)
			}
		})
	}
}

// p10EachPart visits all lists of numbers that are at least 1 and have this sum.
func p10EachPart(sum int, visit func(parts []int)) {
	if sum == 0 {
		visit(nil)
		return
	}
	for part := 1; part <= sum; part++ {
		p10EachPart(sum-part, func(parts []int) { visit(append([]int{part}, parts...)) })
	}
}

// p10History is what must be true of a link after some puts and releases: by Pos, what is exported there and how often.
type p10History struct {
	byPos map[int]p10Held
	next  int
}

type p10Held struct{ entity, count int }

func (h p10History) put(entity int) (p10History, int) {
	after := p10History{maps.Clone(h.byPos), h.next}
	for pos, x := range h.byPos {
		if x.entity == entity {
			after.byPos[pos] = p10Held{entity, x.count + 1}
			return after, pos
		}
	}
	after.next++
	after.byPos[after.next] = p10Held{entity, 1}
	return after, after.next
}

func (h p10History) release(pos int, count int) p10History {
	after := p10History{maps.Clone(h.byPos), h.next}
	after.byPos[pos] = p10Held{h.byPos[pos].entity, h.byPos[pos].count - count}
	maps.DeleteFunc(after.byPos, func(_ int, x p10Held) bool { return x.count < 1 })
	return after
}

func (h p10History) check(t *testing.T, l impl.Link) {
	t.Helper()
	if l.Next != h.next || len(l.Exports) != len(h.byPos) {
		t.Fatalf("%v became %+v", h, l)
	}
	for pos := -1; pos <= h.next+1; pos++ {
		want, isThere := h.byPos[pos]
		if !isThere {
			want.entity = -1
		}
		if impl.FindExport(l, pos) != want.entity || isThere && impl.PosOf(l, want.entity) != pos {
			t.Fatalf("%v became %+v", h, l)
		}
	}
}

func p10WalkHistories(t *testing.T, h p10History, l impl.Link, steps int) {
	h.check(t, l)
	if steps == 0 {
		return
	}
	for _, entity := range []int{0, 7} {
		after, want := h.put(entity)
		more, pos := impl.PutExport(l, entity)
		if pos != want {
			t.Fatalf("PutExport of %d in %+v gives %d, not %d", entity, l, pos, want)
		}
		p10WalkHistories(t, after, more, steps-1)
	}
	for pos := range h.byPos {
		for _, count := range []int{1, 2} {
			p10WalkHistories(t, h.release(pos, count), impl.ReleaseExport(l, pos, count), steps-1)
		}
	}
}

// The promise, for two exports at a time, after all that can be done with them in a few steps.
func TestP10ExportsAfterEveryHistory(t *testing.T) {
	p10WalkHistories(t, p10History{byPos: map[int]p10Held{}}, impl.NewLink(1), 7)
}

func TestP10PutQuestion(t *testing.T) {
	for _, promise := range p10Extremes() {
		// without questions
		want := impl.Link{Peer: 2, Up: true, Questions: []impl.Question{p10Entry(1, promise)}, Asked: 1}
		if got, id := impl.PutQuestion(impl.NewLink(2), promise); !p10Same(got, want) || id != 1 {
			t.Errorf("PutQuestion of %d is %+v, %d", promise, got, id)
		}
		// with questions, also of the same promise
		l := p10Full()
		l.Questions = append(l.Questions, p10Entry(44, promise))
		want = p10Clone(l)
		want.Questions, want.Asked = append(want.Questions, p10Entry(45, promise)), 45
		if got, id := impl.PutQuestion(l, promise); !p10Same(got, want) || id != 45 {
			t.Errorf("PutQuestion of %d in %+v is %+v, %d", promise, l, got, id)
		}
	}
	// only Asked counts, which wraps around behind the greatest integer
	for _, asked := range p10Extremes() {
		l := p10Full()
		l.Asked = asked
		l.Questions = append(l.Questions, p10Entry(asked+1, 5))
		want := p10Clone(l)
		want.Asked = asked + 1
		want.Questions = append(want.Questions, p10Entry(asked+1, 6))
		if got, id := impl.PutQuestion(l, 6); !p10Same(got, want) || id != asked+1 {
			t.Errorf("PutQuestion in %+v is %+v, %d", l, got, id)
		}
	}
	if got, id := impl.PutQuestion(impl.Link{Asked: math.MaxInt64}, 3); id != math.MinInt64 || got.Asked != math.MinInt64 || len(got.Questions) != 1 || got.Questions[0] != p10Entry(math.MinInt64, 3) {
		t.Errorf("behind the greatest integer, PutQuestion is %+v, %d", got, id)
	}
}

func TestP10QuestionsOneAfterTheOther(t *testing.T) {
	l := impl.NewLink(4)
	for i := range 200 {
		var id int
		if l, id = impl.PutQuestion(l, 500-i); id != i+1 {
			t.Fatalf("the Id of the question %d is %d", i, id)
		}
		if i%3 == 0 {
			// An Id that was given is not given again, dropped or not.
			l.Questions = impl.DropEntry(l.Questions, id)
		}
	}
	for i := range 200 {
		want := 500 - i
		if i%3 == 0 {
			want = -1
		}
		if got := impl.FindEntry(l.Questions, i+1); got != want {
			t.Errorf("FindEntry of %d is %d, not %d", i+1, got, want)
		}
	}
	if l.Asked != 200 || len(l.Questions) != 133 || len(l.Exports) != 0 || l.Next != 0 || len(l.Answers) != 0 {
		t.Errorf("%+v", l)
	}
}

func TestP10FindEntryAndDropEntryInEveryList(t *testing.T) {
	p10EachList(p10EntryPool(), 4, func(list []impl.Question) {
		for _, id := range []int{0, 1, 2, 3, 5, 6, -1, -2, 1<<32 + 1, math.MaxInt64, math.MinInt64} {
			promise, left := -1, []impl.Question{}
			for i := len(list) - 1; i >= 0; i-- {
				if list[i].Id == id {
					promise = list[i].Promise
				} else {
					left = append(left, list[i])
				}
			}
			slices.Reverse(left)
			got := impl.DropEntry(list, id)
			if impl.FindEntry(list, id) != promise || !slices.Equal(got, left) {
				t.Fatalf("in %v, FindEntry of %d is %d and DropEntry %v", list, id, impl.FindEntry(list, id), got)
			}
			if impl.FindEntry(got, id) != -1 {
				t.Fatalf("in %v, %d is found after it was dropped", list, id)
			}
		}
	})
}

func TestP10FindEntryAndDropEntry(t *testing.T) {
	list := []impl.Question{p10Entry(4, 40), p10Entry(2, 20), p10Entry(4, 41), p10Entry(0, 10), p10Entry(-3, 30), p10Entry(2, 21), p10Entry(7, 0), p10Entry(8, -1), p10Entry(4, 40), p10Entry(9, -90)}
	cases := []struct {
		id, promise int
		places      []int
	}{
		{4, 40, []int{0, 2, 8}}, {2, 20, []int{1, 5}}, {0, 10, []int{3}}, {-3, 30, []int{4}}, {7, 0, []int{6}}, {8, -1, []int{7}}, {9, -90, []int{9}},
		{1, -1, nil}, {3, -1, nil}, {40, -1, nil}, {-4, -1, nil}, {1<<32 + 4, -1, nil}, {math.MaxInt64, -1, nil}, {math.MinInt64, -1, nil},
	}
	for _, c := range cases {
		left := []impl.Question{}
		for i, q := range list {
			if !slices.Contains(c.places, i) {
				left = append(left, q)
			}
		}
		if got := impl.FindEntry(list, c.id); got != c.promise {
			t.Errorf("FindEntry of %d is %d, not %d", c.id, got, c.promise)
		}
		if got := impl.DropEntry(list, c.id); !slices.Equal(got, left) {
			t.Errorf("DropEntry of %d is %v, not %v", c.id, got, left)
		}
		for _, none := range [][]impl.Question{nil, {}, list[:0]} {
			if impl.FindEntry(none, c.id) != -1 || len(impl.DropEntry(none, c.id)) != 0 {
				t.Errorf("in an empty list, %d", c.id)
			}
		}
		// What lies behind a list does not count.
		if impl.FindEntry(list[:3:8], 0) != -1 || len(impl.DropEntry(list[:3], c.id)) > 3 {
			t.Errorf("behind a list, %d", c.id)
		}
	}
}

// p10Memory is a link whose lists lie in longer ones: its Questions and Answers in one memory, with room behind each list.
type p10Memory struct {
	exports []impl.Export
	entries []impl.Question
}

func p10NewMemory() p10Memory {
	return p10Memory{
		[]impl.Export{p10Export(1, 7, 2), p10Export(2, 8, 1), p10Export(3, 9, 5), p10Export(91, 92, 93), p10Export(94, 95, 96)},
		[]impl.Question{p10Entry(1, 11), p10Entry(2, 12), p10Entry(1, 13), p10Entry(2, 14), p10Entry(3, 15), p10Entry(81, 82), p10Entry(83, 84)},
	}
}

func (m p10Memory) same(other p10Memory) bool {
	return slices.Equal(m.exports, other.exports) && slices.Equal(m.entries, other.entries)
}

func (m p10Memory) overwrite() {
	for i := range m.exports {
		m.exports[i] = p10Export(-5, -5, -5)
	}
	p10Overwrite(m.entries)
}

// p10Overwrite writes into the room behind a list as well.
func p10Overwrite(list []impl.Question) {
	list = list[:cap(list)]
	for i := range list {
		list[i] = p10Entry(-6, -6)
	}
}

// link takes that many exports, questions and answers of the memory.
func (m p10Memory) link(exports, questions, answers int) impl.Link {
	return impl.Link{Peer: 3, Up: true, Exports: m.exports[:exports], Next: 3, Questions: m.entries[:questions], Asked: 2, Answers: m.entries[questions : questions+answers]}
}

// p10Calls are the calls that return a link, for each way that they may go.
func p10Calls() map[string]func(l impl.Link) impl.Link {
	put := func(entity int) func(l impl.Link) impl.Link {
		return func(l impl.Link) impl.Link { l, _ = impl.PutExport(l, entity); return l }
	}
	release := func(pos, count int) func(l impl.Link) impl.Link {
		return func(l impl.Link) impl.Link { return impl.ReleaseExport(l, pos, count) }
	}
	return map[string]func(l impl.Link) impl.Link{
		"PutExport of the first": put(7), "PutExport of the last": put(9), "PutExport of another": put(50),
		"ReleaseExport that leaves some": release(3, 2), "ReleaseExport that leaves one": release(1, 1),
		"ReleaseExport of the first": release(1, 2), "ReleaseExport of a middle one": release(2, 3), "ReleaseExport of the last": release(3, 5),
		"ReleaseExport of a Pos that is not there": release(9, 1), "ReleaseExport of nothing": release(1, 0), "ReleaseExport of less than nothing": release(1, -1),
		"PutQuestion": func(l impl.Link) impl.Link { l, _ = impl.PutQuestion(l, 60); return l },
	}
}

func TestP10LinksShareNoMemory(t *testing.T) {
	for name, call := range p10Calls() {
		for _, sizes := range [][3]int{{3, 2, 3}, {1, 1, 1}, {0, 0, 0}, {3, 0, 5}, {2, 4, 0}, {5, 3, 4}} {
			m := p10NewMemory()
			got, other := call(m.link(sizes[0], sizes[1], sizes[2])), call(m.link(sizes[0], sizes[1], sizes[2]))
			want := p10Clone(got)
			if !m.same(p10NewMemory()) {
				t.Errorf("%s with %v has written into its argument: %v", name, sizes, m)
			}
			for i := range got.Exports[:cap(got.Exports)] {
				got.Exports[:cap(got.Exports)][i] = p10Export(-7, -7, -7)
			}
			p10Overwrite(got.Questions)
			if !slices.Equal(got.Answers, want.Answers) {
				t.Errorf("%s with %v: the Questions of the result share memory with its Answers", name, sizes)
			}
			p10Overwrite(got.Answers)
			if !m.same(p10NewMemory()) || !p10Same(other, want) {
				t.Errorf("%s with %v: the result shares memory with the argument or another result", name, sizes)
			}
			m.overwrite()
			if !p10Same(other, want) {
				t.Errorf("%s with %v: with the argument, the result has become %v", name, sizes, other)
			}
		}
	}
}

func TestP10DroppedListsShareNoMemory(t *testing.T) {
	for length := range 8 {
		for _, id := range []int{1, 2, 3, 9, 81, 83} {
			m := p10NewMemory()
			got, other := impl.DropEntry(m.entries[:length], id), impl.DropEntry(m.entries[:length], id)
			want := slices.Clone(other)
			p10Overwrite(got)
			if !m.same(p10NewMemory()) || !slices.Equal(other, want) {
				t.Errorf("of %d entries, DropEntry of %d shares memory: %v", length, id, m.entries)
			}
			m.overwrite()
			if !slices.Equal(other, want) {
				t.Errorf("of %d entries, the result of DropEntry of %d has become %v", length, id, other)
			}
		}
	}
}

func TestP10NothingIsWritten(t *testing.T) {
	for length := range 6 {
		m := p10NewMemory()
		l := m.link(length, length, 7-length)
		for n := -1; n <= 10; n++ {
			impl.FindExport(l, n)
			impl.PosOf(l, n)
			impl.FindEntry(l.Questions, n)
			impl.DropEntry(l.Answers, n)
			impl.EqualLinks(l, m.link(length, length, 7-length))
		}
		if !m.same(p10NewMemory()) {
			t.Errorf("the memory has become %v", m)
		}
	}
}

func TestP10EqualLinksThatAreAlike(t *testing.T) {
	list := []impl.Link{{}, p10Full(), impl.NewLink(0), impl.NewLink(1), impl.NewLink(-1), {Peer: 1}, p10With(), p10With(p10Export(-1, 0, math.MinInt64)), {Exports: make([]impl.Export, 1)}, {Questions: make([]impl.Question, 1)}, {Answers: make([]impl.Question, 1)}}
	for i, a := range list {
		for j, b := range list {
			// Copies, so that equal memory is not what makes them equal.
			if got := impl.EqualLinks(a, p10Clone(b)); got != (i == j) {
				t.Errorf("EqualLinks of %+v and %+v is %v", a, b, got)
			}
		}
		if !impl.EqualLinks(a, a) {
			t.Errorf("%+v is not equal to itself", a)
		}
	}
}

func p10ExpectDifferent(t *testing.T, name string, a, b impl.Link) {
	t.Helper()
	if impl.EqualLinks(a, b) || impl.EqualLinks(b, a) {
		t.Errorf("%s: %+v is equal to %+v", name, a, b)
	}
	if !impl.EqualLinks(b, p10Clone(b)) {
		t.Errorf("%s: %+v is not equal to its copy", name, b)
	}
}

func TestP10EqualLinksThatDifferInOnePlace(t *testing.T) {
	full, changed := p10Full(), p10Full()
	places := p09Leaves(reflect.ValueOf(&changed).Elem())
	// Peer, Up, Next and Asked, 3 lists, 3 exports of 3 numbers, and 6 questions and answers of 2.
	if len(places) != 4+3+9+12 {
		t.Fatalf("%d places", len(places))
	}
	for i, place := range places {
		tried := 0
		p09Variants(place, func() {
			tried++
			p10ExpectDifferent(t, fmt.Sprint("place ", i), full, changed)
		})
		if tried == 0 {
			t.Errorf("place %d was not changed", i)
		}
	}
	if !impl.EqualLinks(full, changed) || !impl.EqualLinks(changed, full) {
		t.Errorf("%+v and %+v are not equal", full, changed)
	}
}

func TestP10EqualLinksThatDifferInTwoPlaces(t *testing.T) {
	// Two fields that are exchanged, or whose difference is made up for by that of another one, and entries in another order.
	edits := []func(l *impl.Link){
		func(l *impl.Link) { l.Next, l.Asked = l.Asked, l.Next },
		func(l *impl.Link) { l.Peer, l.Next = l.Next, l.Peer },
		func(l *impl.Link) { l.Next, l.Asked = l.Next+1, l.Asked-1 },
		func(l *impl.Link) { l.Questions, l.Answers = l.Answers, l.Questions },
		func(l *impl.Link) { l.Exports[0], l.Exports[1] = l.Exports[1], l.Exports[0] },
		func(l *impl.Link) { l.Exports[1], l.Exports[2] = l.Exports[2], l.Exports[1] },
		func(l *impl.Link) { l.Exports[0], l.Exports[2] = l.Exports[2], l.Exports[0] },
		func(l *impl.Link) { l.Questions[0], l.Questions[1] = l.Questions[1], l.Questions[0] },
		func(l *impl.Link) { l.Questions[1], l.Questions[2] = l.Questions[2], l.Questions[1] },
		func(l *impl.Link) { l.Answers[0], l.Answers[1] = l.Answers[1], l.Answers[0] },
		func(l *impl.Link) { l.Answers[1], l.Answers[2] = l.Answers[2], l.Answers[1] },
		func(l *impl.Link) { l.Exports[0].Pos, l.Exports[0].Entity = l.Exports[0].Entity, l.Exports[0].Pos },
		func(l *impl.Link) { l.Exports[0].Count, l.Exports[1].Count = l.Exports[1].Count, l.Exports[0].Count },
		func(l *impl.Link) { l.Exports[0].Pos, l.Exports[1].Pos = l.Exports[1].Pos, l.Exports[0].Pos },
		func(l *impl.Link) {
			l.Exports[0].Count, l.Exports[1].Count = l.Exports[0].Count+1, l.Exports[1].Count-1
		},
		func(l *impl.Link) {
			l.Questions[0].Id, l.Questions[0].Promise = l.Questions[0].Promise, l.Questions[0].Id
		},
		func(l *impl.Link) { l.Questions[0].Id, l.Questions[1].Id = l.Questions[1].Id, l.Questions[0].Id },
		func(l *impl.Link) {
			l.Answers[0].Promise, l.Answers[1].Promise = l.Answers[1].Promise, l.Answers[0].Promise
		},
		func(l *impl.Link) { l.Questions[2], l.Answers[0] = l.Answers[0], l.Questions[2] },
		func(l *impl.Link) { l.Questions, l.Answers = append(l.Questions, l.Answers[0]), l.Answers[1:] },
		func(l *impl.Link) { l.Exports, l.Next = append(l.Exports, p10Export(15, 9, 1)), 15 },
	}
	for i, edit := range edits {
		changed := p10Full()
		edit(&changed)
		p10ExpectDifferent(t, fmt.Sprint("edit ", i), p10Full(), changed)
	}
}

func TestP10EqualLinksWithListsOfDifferentLength(t *testing.T) {
	for i := range 5 {
		for j := range 5 {
			for place := range 3 {
				a, b := p10Full(), p10Full()
				for _, x := range []struct {
					l      *impl.Link
					length int
				}{{&a, i}, {&b, j}} {
					// All entries are alike, or zero: the lengths alone make the difference.
					switch place {
					case 0:
						x.l.Exports = make([]impl.Export, x.length)
					case 1:
						x.l.Questions = slices.Repeat([]impl.Question{p10Entry(1, 2)}, x.length)
					case 2:
						x.l.Answers = make([]impl.Question, x.length)
					}
				}
				if got := impl.EqualLinks(a, b); got != (i == j) {
					t.Errorf("EqualLinks of %+v and %+v is %v", a, b, got)
				}
			}
		}
	}
	// The lengths count, not what lies in the spare capacity.
	m := p10NewMemory()
	p10ExpectDifferent(t, "a part of one memory", m.link(3, 2, 3), m.link(2, 2, 3))
	p10ExpectDifferent(t, "a part of one memory", m.link(3, 2, 3), m.link(3, 2, 2))
	p10ExpectDifferent(t, "parts of one memory", m.link(3, 2, 3), m.link(3, 3, 2))
}

func TestP10EqualLinksWithNilAndEmptyLists(t *testing.T) {
	lists := []impl.Link{{}, {Exports: []impl.Export{}}, {Questions: []impl.Question{}}, {Answers: []impl.Question{}}, p10NewMemory().link(0, 0, 0), {Exports: []impl.Export{}, Questions: []impl.Question{}, Answers: []impl.Question{}}}
	for _, a := range lists {
		for _, b := range lists {
			a.Peer, a.Up, a.Next, a.Asked = 1, true, 2, 3
			b.Peer, b.Up, b.Next, b.Asked = 1, true, 2, 3
			if !impl.EqualLinks(a, b) || !impl.EqualLinks(b, a) {
				t.Errorf("%#v and %#v are not equal", a, b)
			}
			for _, full := range []impl.Link{{Exports: make([]impl.Export, 1)}, {Questions: make([]impl.Question, 1)}, {Answers: make([]impl.Question, 1)}} {
				full.Peer, full.Up, full.Next, full.Asked = 1, true, 2, 3
				p10ExpectDifferent(t, "a list of one zero element", a, full)
			}
		}
	}
}

// What the functions return is equal to what was asked for, whether the lists in it are nil or empty.
func TestP10ResultsAreEqual(t *testing.T) {
	full := p10Full()
	if !impl.EqualLinks(impl.ReleaseExport(full, 99, 1), full) || !impl.EqualLinks(impl.ReleaseExport(full, 11, 0), full) || impl.EqualLinks(impl.ReleaseExport(full, 11, 1), full) {
		t.Error("ReleaseExport")
	}
	more, pos := impl.PutExport(full, 5)
	if less := impl.ReleaseExport(more, pos, 1); impl.EqualLinks(less, full) || less.Next != 15 || !slices.Equal(less.Exports, full.Exports) {
		t.Errorf("an export that was put and released leaves %+v", less)
	}
	for _, l := range []impl.Link{{}, impl.NewLink(3)} {
		if !impl.EqualLinks(impl.ReleaseExport(l, 1, 1), l) {
			t.Errorf("ReleaseExport changes %+v", l)
		}
	}
}
