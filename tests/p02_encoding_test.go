package tests

import (
	"bytes"
	"math"
	"math/rand"
	"slices"
	"testing"

	"loop.example/g00591/impl"
)

type p02Varint struct {
	n     int
	bytes []byte
}

func p02Varints() []p02Varint {
	return []p02Varint{
		{0, []byte{0}}, {1, []byte{1}}, {5, []byte{5}}, {126, []byte{126}}, {127, []byte{127}},
		{128, []byte{128, 1}}, {129, []byte{129, 1}}, {255, []byte{255, 1}}, {256, []byte{128, 2}}, {300, []byte{172, 2}},
		{16256, []byte{128, 127}}, {16383, []byte{255, 127}}, {16384, []byte{128, 128, 1}}, {16385, []byte{129, 128, 1}},
		{2097151, []byte{255, 255, 127}}, {2097152, []byte{128, 128, 128, 1}},
		{268435455, []byte{255, 255, 255, 127}}, {268435456, []byte{128, 128, 128, 128, 1}},
		{34359738367, []byte{255, 255, 255, 255, 127}}, {34359738368, []byte{128, 128, 128, 128, 128, 1}},
		{999999999999, []byte{255, 159, 148, 165, 141, 29}}, {impl.MaxValue, []byte{128, 160, 148, 165, 141, 29}},
	}
}

func p02OutsideValues() []int {
	return []int{-1, -2, -300, impl.MaxValue + 1, impl.MaxValue + 2, 1 << 42, math.MaxInt64, math.MinInt64, -impl.MaxValue}
}

// p02BadVarint is an input from whose first byte no varint is read.
type p02BadVarint struct {
	reason string
	bytes  []byte
}

func p02BadVarints() []p02BadVarint {
	return []p02BadVarint{
		{"nothing", nil},
		{"nothing", []byte{}},
		{"ends after one byte", []byte{128}},
		{"ends after one byte", []byte{255}},
		{"ends after two bytes", []byte{172, 130}},
		{"ends after five bytes", []byte{129, 129, 129, 129, 129}},
		{"ends after six bytes", []byte{129, 129, 129, 129, 129, 129}},
		{"seven bytes", []byte{129, 129, 129, 129, 129, 129, 1}},
		{"seven bytes of small value", []byte{128, 128, 128, 128, 128, 128, 1}},
		{"seven bytes of value 0", []byte{128, 128, 128, 128, 128, 128, 0}},
		{"seven bytes of value 5", []byte{133, 128, 128, 128, 128, 128, 0}},
		{"ten bytes", []byte{255, 255, 255, 255, 255, 255, 255, 255, 255, 1}},
		{"eleven bytes", []byte{129, 128, 128, 128, 128, 128, 128, 128, 128, 128, 2}},
		{"0 in two bytes", []byte{128, 0}},
		{"1 in two bytes", []byte{129, 0}},
		{"127 in two bytes", []byte{255, 0}},
		{"300 in three bytes", []byte{172, 130, 0}},
		{"0 in three bytes", []byte{128, 128, 0}},
		{"not minimal, four bytes", []byte{255, 255, 255, 0}},
		{"not minimal, five bytes", []byte{128, 128, 128, 129, 0}},
		{"not minimal, six bytes", []byte{255, 255, 255, 255, 255, 0}},
		{"MaxValue+1", []byte{129, 160, 148, 165, 141, 29}},
		{"MaxValue and 128", []byte{128, 161, 148, 165, 141, 29}},
		{"1<<40", []byte{128, 128, 128, 128, 128, 32}},
		{"the largest of six bytes", []byte{255, 255, 255, 255, 255, 127}},
	}
}

func TestP02AppendUvarint(t *testing.T) {
	for _, c := range p02Varints() {
		if got := impl.AppendUvarint(nil, c.n); !bytes.Equal(got, c.bytes) {
			t.Errorf("AppendUvarint(nil, %d) = %v", c.n, got)
		}
		want := append([]byte{9, 128}, c.bytes...)
		if got := impl.AppendUvarint([]byte{9, 128}, c.n); !bytes.Equal(got, want) {
			t.Errorf("AppendUvarint([9 128], %d) = %v", c.n, got)
		}
	}
}

func TestP02AppendUvarintOfOutsideValues(t *testing.T) {
	for _, n := range p02OutsideValues() {
		if got := impl.AppendUvarint(nil, n); len(got) != 0 {
			t.Errorf("AppendUvarint(nil, %d) = %v", n, got)
		}
		if got := impl.AppendUvarint([]byte{9, 8}, n); !bytes.Equal(got, []byte{9, 8}) {
			t.Errorf("AppendUvarint([9 8], %d) = %v", n, got)
		}
	}
}

func TestP02ReadUvarint(t *testing.T) {
	for _, c := range p02Varints() {
		for _, head := range [][]byte{nil, {128}, {255, 0, 7}} {
			for _, tail := range [][]byte{nil, {0}, {128}, {255, 255, 255}} {
				b := slices.Concat(head, c.bytes, tail)
				n, next, ok := impl.ReadUvarint(b, len(head))
				if !ok || n != c.n || next != len(head)+len(c.bytes) {
					t.Errorf("ReadUvarint(%v, %d) = %d, %d, %v", b, len(head), n, next, ok)
				}
			}
		}
	}
}

func TestP02ReadUvarintRejects(t *testing.T) {
	for _, c := range p02BadVarints() {
		for _, head := range [][]byte{nil, {0}, {128, 3, 128}} {
			b := slices.Concat(head, c.bytes)
			if n, next, ok := impl.ReadUvarint(b, len(head)); ok || n != 0 || next != 0 {
				t.Errorf("%s: ReadUvarint(%v, %d) = %d, %d, %v", c.reason, b, len(head), n, next, ok)
			}
		}
	}
}

func TestP02ReadUvarintOffsetOutOfRange(t *testing.T) {
	for _, b := range [][]byte{nil, {}, {5}, {172, 2}, {1, 2, 3, 4, 5, 6, 7, 8}} {
		offsets := []int{-1, -2, -len(b) - 1, len(b), len(b) + 1, len(b) + 6, math.MaxInt64, math.MaxInt64 - 5, math.MinInt64}
		for _, offset := range offsets {
			if n, next, ok := impl.ReadUvarint(b, offset); ok || n != 0 || next != 0 {
				t.Errorf("ReadUvarint(%v, %d) = %d, %d, %v", b, offset, n, next, ok)
			}
		}
	}
}

func TestP02ReadUvarintEndsWithTheSlice(t *testing.T) {
	whole := []byte{172, 130, 1}
	if n, next, ok := impl.ReadUvarint(whole[:2], 0); ok || n != 0 || next != 0 {
		t.Errorf("read beyond the length: %d, %d, %v", n, next, ok)
	}
}

func TestP02UvarintRoundTrip(t *testing.T) {
	random := rand.New(rand.NewSource(2))
	numbers := []int{}
	for n := range 40000 {
		numbers = append(numbers, n, impl.MaxValue-n, random.Intn(impl.MaxValue+1))
	}
	for _, n := range numbers {
		b := impl.AppendUvarint(nil, n)
		if got, next, ok := impl.ReadUvarint(b, 0); !ok || got != n || next != len(b) {
			t.Fatalf("%d: ReadUvarint(%v, 0) = %d, %d, %v", n, b, got, next, ok)
		}
		for size := range b {
			if got, next, ok := impl.ReadUvarint(b[:size], 0); ok || got != 0 || next != 0 {
				t.Fatalf("%d: ReadUvarint(%v, 0) = %d, %d, %v", n, b[:size], got, next, ok)
			}
		}
	}
}

// p02Read follows the words of the chapter, one after the other, as a second opinion.
func p02Read(b []byte) (int, int, bool) {
	last := slices.IndexFunc(b, func(c byte) bool { return c < 128 })
	if last < 0 || last > 5 || last > 0 && b[last] == 0 {
		return 0, 0, false
	}
	n, weight := 0, 1
	for _, c := range b[:last+1] {
		n += int(c%128) * weight
		weight *= 128
	}
	if n > impl.MaxValue {
		return 0, 0, false
	}
	return n, last + 1, true
}

func TestP02AnIntegerHasOneEncoding(t *testing.T) {
	inputs := [][]byte{}
	for first := range 256 {
		inputs = append(inputs, []byte{byte(first)})
		for second := range 256 {
			inputs = append(inputs, []byte{byte(first), byte(second)})
		}
	}
	random := rand.New(rand.NewSource(3))
	ends := []byte{0, 1, 28, 29, 30, 127, 128, 255}
	for range 200000 {
		b := make([]byte, 1+random.Intn(8))
		for i := range b {
			b[i] = byte(random.Intn(128)) | 128
		}
		b[len(b)-1] = ends[random.Intn(len(ends))]
		inputs = append(inputs, b)
	}
	for _, b := range inputs {
		n, next, ok := impl.ReadUvarint(b, 0)
		wantN, wantNext, wantOK := p02Read(b)
		if n != wantN || next != wantNext || ok != wantOK {
			t.Fatalf("ReadUvarint(%v, 0) = %d, %d, %v", b, n, next, ok)
		}
		if ok && !bytes.Equal(impl.AppendUvarint(nil, n), b[:next]) {
			t.Fatalf("%v is not the encoding of %d", b[:next], n)
		}
	}
}

func p02Counting(size int) []byte {
	data := make([]byte, size)
	for i := range data {
		data[i] = byte(i * 7)
	}
	return data
}

func TestP02AppendBytes(t *testing.T) {
	cases := []struct{ b, data, want []byte }{
		{nil, nil, []byte{0}},
		{[]byte{}, []byte{}, []byte{0}},
		{nil, []byte{0}, []byte{1, 0}},
		{[]byte{1}, []byte{7, 8}, []byte{1, 2, 7, 8}},
		{[]byte{1}, nil, []byte{1, 0}},
		{[]byte{128, 0}, []byte{128, 255, 0}, []byte{128, 0, 3, 128, 255, 0}},
		{nil, p02Counting(127), append([]byte{127}, p02Counting(127)...)},
		{nil, p02Counting(128), append([]byte{128, 1}, p02Counting(128)...)},
		{[]byte{5}, p02Counting(300), append([]byte{5, 172, 2}, p02Counting(300)...)},
	}
	for _, c := range cases {
		if got := impl.AppendBytes(c.b, c.data); !bytes.Equal(got, c.want) {
			t.Errorf("AppendBytes(%v, %v) = %v", c.b, c.data, got)
		}
	}
}

func TestP02ReadBytesInvertsAppendBytes(t *testing.T) {
	for _, size := range []int{0, 1, 2, 3, 126, 127, 128, 129, 300, 16383, 16384} {
		data := p02Counting(size)
		for _, head := range [][]byte{nil, {128}, {9, 9, 9}} {
			b := impl.AppendBytes(head, data)
			end := len(b)
			b = append(b, 200, 0)
			for _, maxLen := range []int{size, size + 1, impl.MaxValue, math.MaxInt64} {
				got, next, ok := impl.ReadBytes(b, len(head), maxLen)
				if !ok || next != end || !bytes.Equal(got, data) {
					t.Errorf("%d bytes after %v, at most %d: %v, %d, %v", size, head, maxLen, got, next, ok)
				}
			}
		}
	}
}

func p02ExpectNoBytes(t *testing.T, b []byte, offset int, maxLen int) {
	t.Helper()
	if data, next, ok := impl.ReadBytes(b, offset, maxLen); ok || next != 0 || len(data) != 0 {
		t.Errorf("ReadBytes(%v, %d, %d) = %v, %d, %v", b, offset, maxLen, data, next, ok)
	}
}

func TestP02ReadBytesWithoutLengthPrefix(t *testing.T) {
	for _, c := range p02BadVarints() {
		p02ExpectNoBytes(t, c.bytes, 0, impl.MaxValue)
		p02ExpectNoBytes(t, slices.Concat([]byte{1}, c.bytes), 1, math.MaxInt64)
	}
	for _, offset := range []int{-1, 3, 4, math.MaxInt64, math.MinInt64} {
		p02ExpectNoBytes(t, []byte{2, 0, 0}, offset, 10)
	}
	p02ExpectNoBytes(t, nil, 0, 0)
	// The data is there, but its length is not minimal.
	p02ExpectNoBytes(t, []byte{129, 0, 7}, 0, 10)
}

func TestP02ReadBytesLongerThanAllowed(t *testing.T) {
	for _, size := range []int{1, 2, 127, 128, 300} {
		b := impl.AppendBytes([]byte{3}, p02Counting(size))
		for _, maxLen := range []int{size - 1, 0, -1, math.MinInt64} {
			p02ExpectNoBytes(t, b, 1, maxLen)
		}
	}
	for _, maxLen := range []int{-1, -2, math.MinInt64} {
		p02ExpectNoBytes(t, []byte{0}, 0, maxLen)
	}
	if data, next, ok := impl.ReadBytes([]byte{0}, 0, 0); !ok || next != 1 || len(data) != 0 {
		t.Error("a byte string of length 0 is not longer than 0", data, next, ok)
	}
}

func TestP02ReadBytesFromShortInput(t *testing.T) {
	for _, size := range []int{1, 2, 127, 128, 300} {
		b := impl.AppendBytes([]byte{3}, p02Counting(size))
		for end := range b {
			// The capacity of this input reaches beyond its length.
			p02ExpectNoBytes(t, b[:end], 1, size)
		}
	}
	huge := impl.AppendUvarint(nil, impl.MaxValue)
	p02ExpectNoBytes(t, huge, 0, impl.MaxValue)
	p02ExpectNoBytes(t, append(huge, 1, 2, 3), 0, math.MaxInt64)
}

func TestP02EncodeInts(t *testing.T) {
	cases := []struct {
		values []int
		want   []byte
	}{
		{nil, nil}, {[]int{}, nil}, {[]int{0}, []byte{0}}, {[]int{5, 300}, []byte{5, 172, 2}}, {[]int{300, 0, 0, 5}, []byte{172, 2, 0, 0, 5}},
		{[]int{impl.MaxValue, 127, 128}, []byte{128, 160, 148, 165, 141, 29, 127, 128, 1}},
		{[]int{-1}, nil}, {[]int{1, -1, 2}, []byte{1, 2}}, {[]int{impl.MaxValue + 1, 7}, []byte{7}},
		{p02OutsideValues(), nil}, {append(p02OutsideValues(), 300), []byte{172, 2}},
	}
	for _, c := range cases {
		if got := impl.EncodeInts(c.values); !bytes.Equal(got, c.want) {
			t.Errorf("EncodeInts(%v) = %v", c.values, got)
		}
	}
	all, want := []int{}, []byte{}
	for _, c := range p02Varints() {
		all, want = append(all, c.n), append(want, c.bytes...)
	}
	if got := impl.EncodeInts(all); !bytes.Equal(got, want) {
		t.Errorf("EncodeInts(%v) = %v", all, got)
	}
	// There is no limit to the number of values that are encoded.
	if got := impl.EncodeInts(make([]int, 1000)); !bytes.Equal(got, make([]byte, 1000)) {
		t.Errorf("1000 zeros: %v", got)
	}
}

func TestP02DecodeInts(t *testing.T) {
	all := []int{}
	for _, c := range p02Varints() {
		all = append(all, c.n)
	}
	lists := [][]int{nil, {0}, {5, 300}, {300, 5}, {impl.MaxValue, 0, impl.MaxValue}, all, make([]int, 99), make([]int, 100)}
	for _, list := range lists {
		for _, head := range [][]byte{nil, {128}, {1, 2, 255}} {
			b := slices.Concat(head, impl.EncodeInts(list))
			end := len(b)
			b = append(b, 129, 0)
			got, next, ok := impl.DecodeInts(b, len(head), len(list))
			if !ok || next != end || !slices.Equal(got, list) {
				t.Errorf("DecodeInts(%v, %d, %d) = %v, %d, %v", b, len(head), len(list), got, next, ok)
			}
		}
	}
}

func TestP02DecodeNoInts(t *testing.T) {
	b := []byte{5, 128, 0}
	for offset := range len(b) + 1 {
		if got, next, ok := impl.DecodeInts(b, offset, 0); !ok || next != offset || len(got) != 0 {
			t.Errorf("DecodeInts(%v, %d, 0) = %v, %d, %v", b, offset, got, next, ok)
		}
	}
	if got, next, ok := impl.DecodeInts(nil, 0, 0); !ok || next != 0 || len(got) != 0 {
		t.Errorf("DecodeInts(nil, 0, 0) = %v, %d, %v", got, next, ok)
	}
}

func p02ExpectNoInts(t *testing.T, b []byte, offset int, count int) {
	t.Helper()
	if values, next, ok := impl.DecodeInts(b, offset, count); ok || next != 0 || len(values) != 0 {
		t.Errorf("DecodeInts(%v, %d, %d) = %v, %d, %v", b, offset, count, values, next, ok)
	}
}

func TestP02DecodeIntsCountOutOfRange(t *testing.T) {
	b := make([]byte, 200)
	for _, count := range []int{-1, -100, 101, 102, 200, math.MaxInt64, math.MinInt64} {
		p02ExpectNoInts(t, b, 0, count)
		p02ExpectNoInts(t, b, 50, count)
		p02ExpectNoInts(t, nil, 0, count)
	}
}

func TestP02DecodeIntsOffsetOutOfRange(t *testing.T) {
	for _, b := range [][]byte{nil, {5}, {5, 172, 2}} {
		for _, offset := range []int{-1, -2, len(b) + 1, len(b) + 2, math.MaxInt64, math.MinInt64} {
			for _, count := range []int{0, 1, 3} {
				p02ExpectNoInts(t, b, offset, count)
			}
		}
	}
}

func TestP02DecodeIntsThatCannotBeDecoded(t *testing.T) {
	p02ExpectNoInts(t, nil, 0, 1)
	p02ExpectNoInts(t, []byte{5}, 1, 1)
	p02ExpectNoInts(t, []byte{5, 172, 2}, 0, 3)
	p02ExpectNoInts(t, make([]byte, 99), 0, 100)
	for _, c := range p02BadVarints() {
		p02ExpectNoInts(t, c.bytes, 0, 1)
		p02ExpectNoInts(t, slices.Concat([]byte{5, 172, 2}, c.bytes), 0, 3)
		p02ExpectNoInts(t, slices.Concat([]byte{255}, []byte{5, 172, 2}, c.bytes), 1, 3)
		// The varints before the one that cannot be decoded are still there for those who ask for no more.
		b := slices.Concat([]byte{5, 172, 2}, c.bytes)
		if got, next, ok := impl.DecodeInts(b, 0, 2); !ok || next != 3 || !slices.Equal(got, []int{5, 300}) {
			t.Errorf("DecodeInts(%v, 0, 2) = %v, %d, %v", b, got, next, ok)
		}
	}
	p02ExpectNoInts(t, []byte{129, 0, 5}, 0, 2)
}

func TestP02EqualBytes(t *testing.T) {
	cases := []struct {
		a, b []byte
		want bool
	}{
		{nil, nil, true}, {nil, []byte{}, true}, {[]byte{}, nil, true}, {[]byte{}, []byte{}, true},
		{[]byte{0}, []byte{0}, true}, {[]byte{1, 2, 255}, []byte{1, 2, 255}, true}, {p02Counting(300), p02Counting(300), true},
		{nil, []byte{0}, false}, {[]byte{0}, nil, false}, {[]byte{0}, []byte{0, 0}, false}, {[]byte{1, 2}, []byte{1}, false},
		{[]byte{1, 2}, []byte{1, 3}, false}, {[]byte{1, 2}, []byte{3, 2}, false}, {[]byte{1, 2}, []byte{2, 1}, false},
		{[]byte{0}, []byte{128}, false}, {[]byte("a"), []byte("A"), false}, {[]byte{127}, []byte{255}, false}, {p02Counting(300), p02Counting(299), false},
	}
	for _, c := range cases {
		if got := impl.EqualBytes(c.a, c.b); got != c.want {
			t.Errorf("EqualBytes(%v, %v) = %v", c.a, c.b, got)
		}
	}
}

// p02Spare returns a slice whose spare capacity holds the number 77 everywhere, and the memory behind it.
func p02Spare(data ...byte) ([]byte, []byte) {
	memory := bytes.Repeat([]byte{77}, len(data)+16)
	copy(memory, data)
	return memory[:len(data)], memory
}

func p02Overwrite(b []byte) {
	b = b[:cap(b)]
	for i := range b {
		b[i] = 99
	}
}

func TestP02AppendingLeavesTheArguments(t *testing.T) {
	results := map[string]func(b []byte, data []byte) []byte{
		"AppendUvarint":           func(b, data []byte) []byte { return impl.AppendUvarint(b, 300) },
		"AppendUvarint, no value": func(b, data []byte) []byte { return impl.AppendUvarint(b, -1) },
		"AppendBytes":             impl.AppendBytes,
		"AppendBytes, no data":    func(b, data []byte) []byte { return impl.AppendBytes(b, nil) },
		"AppendBytes of itself":   func(b, data []byte) []byte { return impl.AppendBytes(b, b) },
	}
	for name, result := range results {
		b, memory := p02Spare(1, 2, 3)
		data, dataMemory := p02Spare(4, 5)
		before, dataBefore := bytes.Clone(memory), bytes.Clone(dataMemory)
		got := result(b, data)
		if !bytes.HasPrefix(got, []byte{1, 2, 3}) {
			t.Errorf("%s: %v", name, got)
		}
		p02Overwrite(got)
		if !bytes.Equal(memory, before) || !bytes.Equal(dataMemory, dataBefore) {
			t.Errorf("%s: the result shares memory with an argument, or has changed it", name)
		}
		// Appending twice to the same slice gives two results.
		first, second := result(b, data), result(b, data)
		want := bytes.Clone(second)
		p02Overwrite(first)
		if !bytes.Equal(second, want) {
			t.Errorf("%s: two results share memory", name)
		}
	}
}

func TestP02ReadBytesReturnsACopy(t *testing.T) {
	b, memory := p02Spare(1, 2, 7, 8, 9, 0)
	before := bytes.Clone(memory)
	first, _, ok := impl.ReadBytes(b, 1, 2)
	second, _, _ := impl.ReadBytes(b, 1, 2)
	if !ok || !bytes.Equal(first, []byte{7, 8}) {
		t.Fatal(first)
	}
	p02Overwrite(first)
	if !bytes.Equal(memory, before) {
		t.Error("the data shares memory with the input")
	}
	if !bytes.Equal(second, []byte{7, 8}) {
		t.Error("two results share memory")
	}
	empty, _, _ := impl.ReadBytes(b, 5, 2)
	p02Overwrite(empty)
	if !bytes.Equal(memory, before) {
		t.Error("data of length 0 shares memory with the input")
	}
}

func TestP02IntsAreNewMemory(t *testing.T) {
	values := []int{5, 300, -1, 7}
	b := impl.EncodeInts(values)
	if !slices.Equal(values, []int{5, 300, -1, 7}) {
		t.Error("EncodeInts changed its argument", values)
	}
	kept := bytes.Clone(b)
	first, _, _ := impl.DecodeInts(b, 0, 3)
	second, _, _ := impl.DecodeInts(b, 0, 3)
	if !bytes.Equal(b, kept) {
		t.Error("DecodeInts changed its argument", b)
	}
	for i := range first {
		first[i] = 99
	}
	if !slices.Equal(second, []int{5, 300, 7}) {
		t.Error("two results share memory", second)
	}
}
