package tests

import (
	"bytes"
	"math"
	"math/big"
	"math/rand"
	"slices"
	"testing"

	"loop.example/g00591/impl"
)

const p03M = 2147483647

// p03Hash is the document's definition, computed with integers that have no limits.
func p03Hash(values ...int) int {
	accumulator, modulus := big.NewInt(11), big.NewInt(p03M)
	for _, v := range values {
		// Mod of package big is never negative for a positive modulus.
		reduced := new(big.Int).Mod(big.NewInt(int64(v)), modulus)
		accumulator.Mul(accumulator, big.NewInt(1000003))
		accumulator.Add(accumulator, reduced)
		accumulator.Add(accumulator, big.NewInt(13))
		accumulator.Mod(accumulator, modulus)
	}
	return int(accumulator.Int64())
}

func p03Keyed(key int, values ...int) int {
	return p03Hash(slices.Concat([]int{key}, values, []int{key})...)
}

func p03Numbers() []int {
	return []int{
		0, 1, 2, 5, 13, 255, 256, 300, 1000003, 1 << 31, 1 << 32, 1<<32 + 1, 1 << 62,
		p03M - 13, p03M - 2, p03M - 1, p03M, p03M + 1, p03M + 5, 2*p03M - 1, 2 * p03M, 2*p03M + 1,
		impl.MaxValue - 1, impl.MaxValue, impl.MaxValue + 1, math.MaxInt64 - 1, math.MaxInt64,
		-1, -2, -5, -13, -300, -p03M + 1, -p03M, -p03M - 1, -2 * p03M, -impl.MaxValue, math.MinInt64 + 1, math.MinInt64,
	}
}

func p03Lists() [][]int {
	lists := [][]int{
		nil, {}, {1, 2}, {2, 1}, {0, 0}, {0, 0, 0}, {5, 300}, {-1, 1}, {1, -1}, {math.MinInt64, -1, 0, 1, math.MaxInt64},
		{1, 2, 3, 4, 5, 6, 7, 8}, slices.Repeat([]int{p03M - 1}, 100), slices.Repeat([]int{-1}, 1000), p03Numbers(),
	}
	for _, n := range p03Numbers() {
		lists = append(lists, []int{n})
	}
	return lists
}

func p03Keys() []int {
	return append(p03Numbers(), 77, 78, 12345, 1999999999, -77)
}

func TestP03Modulus(t *testing.T) {
	if impl.Modulus != p03M {
		t.Error(impl.Modulus)
	}
}

func TestP03HashOfWrittenNumbers(t *testing.T) {
	cases := []struct {
		values []int
		want   int
	}{
		{nil, 11}, {[]int{}, 11}, {[]int{5}, 11000051}, {[]int{0}, 11000046}, {[]int{1}, 11000047}, {[]int{2}, 11000048},
		{[]int{1, 2}, 668760222}, {[]int{2, 1}, 669760224}, {[]int{0, 0}, 667760217}, {[]int{0, 0, 0}, 32762367},
		{[]int{5, 300}, 672760532}, {[]int{300, 5}, 967761122}, {[]int{1, 2, 3, 4, 5, 6, 7, 8}, 787941277},
		// negative values
		{[]int{-1}, 11000045}, {[]int{-5}, 11000041}, {[]int{-p03M + 1}, 11000047}, {[]int{-p03M}, 11000046}, {[]int{-p03M - 1}, 11000045},
		{[]int{-impl.MaxValue}, 738379548}, {[]int{math.MinInt64}, 11000044},
		// values of Modulus and beyond
		{[]int{p03M - 1}, 11000045}, {[]int{p03M}, 11000046}, {[]int{p03M + 1}, 11000047}, {[]int{p03M + 5}, 11000051},
		{[]int{impl.MaxValue}, 1431104191}, {[]int{math.MaxInt64}, 11000047},
		{[]int{math.MinInt64, -1, 0, 1, math.MaxInt64}, 1566619388}, {[]int{p03M - 1, p03M - 1, p03M - 1, p03M - 1, p03M - 1}, 1743082082},
		// the least hash
		{[]int{5, 1474723415}, 0},
	}
	for _, c := range cases {
		if got := impl.Hash(c.values); got != c.want {
			t.Errorf("Hash(%v) = %d, not %d", c.values, got, c.want)
		}
	}
}

func TestP03HashIsTheDocuments(t *testing.T) {
	lists := p03Lists()
	random := rand.New(rand.NewSource(3))
	for range 300 {
		list := make([]int, random.Intn(40))
		for i := range list {
			list[i] = int(random.Uint64())
		}
		lists = append(lists, list)
	}
	for _, list := range lists {
		got := impl.Hash(list)
		if got != p03Hash(list...) || got < 0 || got >= p03M {
			t.Errorf("Hash(%v) = %d, not %d", list, got, p03Hash(list...))
		}
	}
}

func TestP03HashTakesValuesModuloModulus(t *testing.T) {
	for n := range 50 {
		want := impl.Hash([]int{3, n, 4})
		for _, v := range []int{n + p03M, n - p03M, n + 400*p03M, n - 400*p03M} {
			if got := impl.Hash([]int{3, v, 4}); got != want {
				t.Errorf("Hash([3 %d 4]) = %d, but of %d it is %d", v, got, n, want)
			}
		}
	}
}

func TestP03HashDependsOnTheLength(t *testing.T) {
	seen := map[int]int{}
	for length := range 1000 {
		hash := impl.Hash(make([]int, length))
		if other, ok := seen[hash]; ok {
			t.Errorf("%d and %d zeros have the hash %d", other, length, hash)
		}
		seen[hash] = length
	}
}

func TestP03KeyedHashOfWrittenNumbers(t *testing.T) {
	cases := []struct {
		key    int
		values []int
		want   int
	}{
		{0, nil, 667760217}, {1, nil, 668760221}, {1, []int{}, 668760221}, {77, []int{0}, 321116305}, {77, []int{1}, 322116308},
		{3, []int{4}, 20107550}, {0, []int{7}, 39762388}, {12345, []int{9, 8, 7, 6}, 1850380517},
		// negative keys, and keys of Modulus and beyond
		{p03M - 1, nil, 666760213}, {-1, nil, 666760213}, {p03M, []int{7}, 39762388}, {-77, []int{-1, 5}, 1969270902},
		{math.MinInt64, []int{math.MaxInt64}, 1476521354}, {math.MaxInt64, []int{math.MinInt64}, 1456866516},
	}
	for _, c := range cases {
		if got := impl.KeyedHash(c.key, c.values); got != c.want {
			t.Errorf("KeyedHash(%d, %v) = %d, not %d", c.key, c.values, got, c.want)
		}
	}
}

func TestP03KeyedHashIsTheHashBetweenTwoKeys(t *testing.T) {
	for _, key := range p03Keys() {
		for _, list := range p03Lists() {
			got := impl.KeyedHash(key, list)
			between := slices.Concat([]int{key}, list, []int{key})
			if got != impl.Hash(between) || got != p03Keyed(key, list...) {
				t.Errorf("KeyedHash(%d, %v) = %d", key, list, got)
			}
		}
	}
}

func TestP03KeyedHashDependsOnEachValue(t *testing.T) {
	for _, key := range p03Keys() {
		for _, list := range p03Lists() {
			hash := impl.KeyedHash(key, list)
			for i := range list {
				for _, by := range []int{1, -1, 256, 1 << 30, p03M - 1} {
					other := slices.Clone(list)
					other[i] += by
					// A sum beyond the range of int wraps around, to a number that is still another one modulo Modulus.
					if impl.KeyedHash(key, other) == hash {
						t.Fatalf("KeyedHash(%d, ..) of %v does not depend on the value at index %d", key, list, i)
					}
				}
			}
		}
	}
}

func TestP03KeyedHashDependsOnTheKey(t *testing.T) {
	for _, list := range [][]int{nil, {0}, {1, 2}, {-1, 300, p03M}, {1, 2, 3, 4, 5, 6, 7, 8}} {
		seen := map[int]int{}
		for key := range 2000 {
			hash := impl.KeyedHash(key, list)
			if other, ok := seen[hash]; ok {
				t.Errorf("KeyedHash(%d, %v) = KeyedHash(%d, %v)", key, list, other, list)
			}
			seen[hash] = key
		}
	}
}

func TestP03KeyedHashDependsOnTheOrderAndTheLength(t *testing.T) {
	lists := [][]int{nil, {0}, {0, 0}, {0, 0, 0}, {1}, {0, 1}, {1, 0}, {1, 2, 3}, {1, 3, 2}, {2, 1, 3}, {3, 2, 1}, {77}, {77, 77}}
	for _, key := range []int{0, 1, 77, -1, p03M - 1} {
		seen := map[int][]int{}
		for _, list := range lists {
			hash := impl.KeyedHash(key, list)
			if other, ok := seen[hash]; ok {
				t.Errorf("KeyedHash(%d, %v) = KeyedHash(%d, %v)", key, list, key, other)
			}
			seen[hash] = list
		}
	}
}

func TestP03IsValidKey(t *testing.T) {
	for _, key := range []int{1, 2, 77, 1000003, p03M / 2, p03M - 2, p03M - 1} {
		if !impl.IsValidKey(key) {
			t.Errorf("IsValidKey(%d) is false", key)
		}
	}
	invalid := []int{
		0, p03M, p03M + 1, p03M + 2, 2 * p03M, 2*p03M - 1, 1 << 32, 1<<32 + 1, impl.MaxValue, math.MaxInt64,
		-1, -2, -77, -p03M + 1, -p03M, -p03M - 1, -1 << 32, 1 - 1<<32, math.MinInt64, math.MinInt64 + 1,
	}
	for _, key := range invalid {
		if impl.IsValidKey(key) {
			t.Errorf("IsValidKey(%d) is true", key)
		}
	}
}

func TestP03BytesToInts(t *testing.T) {
	cases := []struct {
		bytes []byte
		want  []int
	}{
		{nil, []int{0}}, {[]byte{}, []int{0}}, {[]byte{0}, []int{1, 0}}, {[]byte{9, 8}, []int{2, 9, 8}}, {[]byte{8, 9}, []int{2, 8, 9}},
		{[]byte{127, 128, 255}, []int{3, 127, 128, 255}}, {[]byte("ab"), []int{2, 97, 98}}, {[]byte{0, 0, 0, 0}, []int{4, 0, 0, 0, 0}},
	}
	for _, c := range cases {
		if got := impl.BytesToInts(c.bytes); !slices.Equal(got, c.want) {
			t.Errorf("BytesToInts(%v) = %v", c.bytes, got)
		}
	}
}

func TestP03BytesToIntsOfManyBytes(t *testing.T) {
	for _, length := range []int{255, 256, 257, 1000, 70000} {
		b := p03Bytes(length)
		got := impl.BytesToInts(b)
		if len(got) != length+1 || got[0] != length {
			t.Fatalf("%d bytes: %d integers, the first of which is %d", length, len(got), got[0])
		}
		for i, c := range b {
			if got[i+1] != int(c) {
				t.Fatalf("%d bytes: %d at index %d", length, got[i+1], i+1)
			}
		}
	}
}

// p03Bytes returns bytes among which each value from 0 to 255 is, if there are as many.
func p03Bytes(length int) []byte {
	b := make([]byte, length)
	for i := range b {
		b[i] = byte(i*7 + i/256)
	}
	return b
}

func p03Texts() [][]byte {
	return [][]byte{
		nil, {}, {0}, {255}, []byte("hello"), {0, 0, 0, 0}, {255, 255, 255, 255}, {127, 128, 129},
		p03Bytes(255), p03Bytes(256), p03Bytes(257), p03Bytes(1000), make([]byte, 600), bytes.Repeat([]byte{255}, 600),
	}
}

func TestP03EncryptOfWrittenBytes(t *testing.T) {
	cases := []struct {
		key   int
		plain []byte
		want  []byte
	}{
		{77, nil, nil}, {77, []byte{}, nil}, {0, nil, nil}, {-1, nil, nil}, {math.MinInt64, nil, nil},
		{77, []byte("hello"), []byte{249, 57, 131, 198, 12}}, {78, []byte("hello"), []byte{84, 148, 222, 33, 103}},
		{1, make([]byte, 8), []byte{90, 157, 224, 35, 102, 169, 236, 47}},
		{p03M - 1, bytes.Repeat([]byte{255}, 8), []byte{162, 229, 40, 107, 174, 241, 52, 119}},
		// bytes that wrap around at 256, and one that just does not
		{77, []byte{110, 111}, []byte{255, 67}}, {77, []byte{111, 111}, []byte{0, 67}}, {77, []byte{112, 111}, []byte{1, 67}},
		// keys that are not valid
		{0, make([]byte, 4), []byte{255, 66, 133, 200}}, {p03M, make([]byte, 4), []byte{255, 66, 133, 200}},
		{-5, []byte{0, 128, 255}, []byte{52, 247, 185}}, {p03M - 5, []byte{0, 128, 255}, []byte{52, 247, 185}},
		{math.MinInt64, []byte{1, 2, 3}, []byte{72, 140, 208}}, {math.MaxInt64, []byte{1, 2, 3}, []byte{91, 159, 227}},
	}
	for _, c := range cases {
		if got := impl.Encrypt(c.key, c.plain); !bytes.Equal(got, c.want) {
			t.Errorf("Encrypt(%d, %v) = %v", c.key, c.plain, got)
		}
		if got := impl.Decrypt(c.key, c.want); !bytes.Equal(got, c.plain) {
			t.Errorf("Decrypt(%d, %v) = %v", c.key, c.want, got)
		}
	}
}

func TestP03CipherIsTheDocuments(t *testing.T) {
	for _, key := range p03Keys() {
		for _, text := range p03Texts() {
			encrypted, decrypted := impl.Encrypt(key, text), impl.Decrypt(key, text)
			if len(encrypted) != len(text) || len(decrypted) != len(text) {
				t.Fatalf("key %d: %d bytes become %d and %d", key, len(text), len(encrypted), len(decrypted))
			}
			for i, c := range text {
				shift := p03Keyed(key, i)
				sum := (int(c) + shift) % 256
				difference := (int(c) - shift%256 + 256) % 256
				if int(encrypted[i]) != sum || int(decrypted[i]) != difference {
					t.Fatalf("key %d: the byte %d at index %d becomes %d and %d", key, c, i, encrypted[i], decrypted[i])
				}
			}
		}
	}
}

func TestP03DecryptInvertsEncrypt(t *testing.T) {
	texts := p03Texts()
	for c := range 256 {
		texts = append(texts, []byte{byte(c), byte(255 - c), byte(c)})
	}
	for _, key := range p03Keys() {
		for _, text := range texts {
			if got := impl.Decrypt(key, impl.Encrypt(key, text)); !bytes.Equal(got, text) {
				t.Fatalf("key %d: %v is decrypted as %v", key, text, got)
			}
			if got := impl.Encrypt(key, impl.Decrypt(key, text)); !bytes.Equal(got, text) {
				t.Fatalf("key %d: %v, decrypted, is encrypted as %v", key, text, got)
			}
		}
	}
}

func TestP03DecryptNeedsTheKey(t *testing.T) {
	text := p03Bytes(300)
	for key := 1; key < 200; key++ {
		encrypted := impl.Encrypt(key, text)
		if bytes.Equal(encrypted, text) {
			t.Errorf("key %d changes nothing", key)
		}
		for _, other := range []int{key + 1, key - 1, -key, p03M - 1} {
			if bytes.Equal(impl.Decrypt(other, encrypted), text) {
				t.Errorf("what key %d encrypts, key %d decrypts", key, other)
			}
		}
	}
}

func TestP03CipherKeepsNoState(t *testing.T) {
	text := p03Bytes(40)
	want := impl.Encrypt(5, text)
	impl.Encrypt(6, text[:7])
	impl.Decrypt(5, text[:3])
	if got := impl.Encrypt(5, text); !bytes.Equal(got, want) {
		t.Errorf("Encrypt returns %v and then %v", want, got)
	}
	// What comes later in a text does not count for what is earlier.
	for length := range text {
		if got := impl.Encrypt(5, text[:length]); !bytes.Equal(got, want[:length]) {
			t.Errorf("the first %d bytes become %v", length, got)
		}
	}
}

func TestP03DeriveFromString(t *testing.T) {
	cases := []struct {
		key   int
		label string
		want  int
	}{
		{5, "ab", 1905036959}, {5, "", 720832201}, {5, "a", 783230796}, {5, "\x00", 686230505}, {0, "", 32762367},
		{p03M - 1, "export", 1057812603}, {-1, "export", 1057812603}, {math.MinInt64, "x", 2049233119},
		// bytes count, not characters, and they need not be UTF-8
		{7, "\u00e9\u20ac", 1669964101}, {7, "\xff\x00\x80", 835652727},
	}
	for _, c := range cases {
		if got := impl.DeriveFromString(c.key, c.label); got != c.want {
			t.Errorf("DeriveFromString(%d, %q) = %d", c.key, c.label, got)
		}
	}
}

func TestP03DeriveFromStringIsAKeyedHash(t *testing.T) {
	labels := []string{"", "a", "b", "ab", "ba", "aa", "question", "\x00", "\x00\x00", "\u00e9", "\xff", string(p03Bytes(300))}
	for _, key := range p03Keys() {
		seen := map[int]string{}
		for _, label := range labels {
			got := impl.DeriveFromString(key, label)
			if got != impl.KeyedHash(key, impl.BytesToInts([]byte(label))) || !impl.IsValidKey(got) {
				t.Errorf("DeriveFromString(%d, %q) = %d", key, label, got)
			}
			if other, ok := seen[got]; ok {
				t.Errorf("DeriveFromString(%d, ..) is the same for %q and %q", key, label, other)
			}
			seen[got] = label
		}
	}
}

func TestP03DeriveFromStringIsNever0(t *testing.T) {
	cases := []struct {
		key   int
		label string
	}{
		{1310415589, ""}, {1465621127, "a"}, {916074962, "ab"}, {1367519415, "question"}, {293453469, "\xff\x00"},
	}
	for _, c := range cases {
		for _, key := range []int{c.key, c.key - p03M, c.key + p03M} {
			if hash := impl.KeyedHash(key, impl.BytesToInts([]byte(c.label))); hash != 0 {
				t.Errorf("the keyed hash for %d and %q is %d, not 0", key, c.label, hash)
			}
			if got := impl.DeriveFromString(key, c.label); got != 1 {
				t.Errorf("DeriveFromString(%d, %q) = %d", key, c.label, got)
			}
			for _, beside := range []int{key - 1, key + 1} {
				if got := impl.DeriveFromString(beside, c.label); got == 1 || !impl.IsValidKey(got) {
					t.Errorf("DeriveFromString(%d, %q) = %d", beside, c.label, got)
				}
			}
		}
	}
}

func TestP03HashesLeaveTheArguments(t *testing.T) {
	memory := []int{1, -2, p03M, 88, 88, 88}
	values := memory[:3]
	want := slices.Clone(memory)
	impl.Hash(values)
	impl.KeyedHash(77, values)
	impl.KeyedHash(-77, values[:0])
	if !slices.Equal(memory, want) {
		t.Errorf("a hash changes the memory of its values: %v", memory)
	}
}

func TestP03CipherReturnsNewMemory(t *testing.T) {
	for name, cipher := range map[string]func(int, []byte) []byte{"Encrypt": impl.Encrypt, "Decrypt": impl.Decrypt} {
		for _, length := range []int{0, 1, 3} {
			b, memory := p02Spare(p03Bytes(length)...)
			before := bytes.Clone(memory)
			first, second := cipher(77, b), cipher(77, b)
			want := bytes.Clone(second)
			p02Overwrite(first)
			if !bytes.Equal(memory, before) {
				t.Errorf("%s: the result shares memory with the argument, or has changed it", name)
			}
			if !bytes.Equal(second, want) {
				t.Errorf("%s: two results share memory", name)
			}
		}
	}
}

func TestP03BytesToIntsReturnsNewMemory(t *testing.T) {
	b, memory := p02Spare(9, 8)
	before := bytes.Clone(memory)
	first, second := impl.BytesToInts(b), impl.BytesToInts(b)
	for i := range first {
		first[i] = 99
	}
	if !bytes.Equal(memory, before) || !slices.Equal(second, []int{2, 9, 8}) {
		t.Error(memory, second)
	}
}

func TestP03EqualInts(t *testing.T) {
	cases := []struct {
		a, b []int
		want bool
	}{
		{nil, nil, true}, {nil, []int{}, true}, {[]int{}, nil, true}, {[]int{0}, []int{0}, true}, {[]int{5, 300}, []int{5, 300}, true},
		{[]int{-1, math.MinInt64, math.MaxInt64}, []int{-1, math.MinInt64, math.MaxInt64}, true},
		{nil, []int{0}, false}, {[]int{0}, nil, false}, {[]int{0}, []int{0, 0}, false}, {[]int{5, 300}, []int{5}, false},
		{[]int{5, 300}, []int{300, 5}, false}, {[]int{5, 300}, []int{5, 301}, false}, {[]int{4, 300}, []int{5, 300}, false},
		{[]int{1}, []int{-1}, false}, {[]int{0}, []int{1 << 32}, false}, {[]int{math.MinInt64}, []int{math.MaxInt64}, false},
		// numbers that a hash does not tell apart
		{[]int{5}, []int{5 + p03M}, false}, {[]int{-1}, []int{p03M - 1}, false},
	}
	for _, c := range cases {
		if got := impl.EqualInts(c.a, c.b); got != c.want {
			t.Errorf("EqualInts(%v, %v) = %v", c.a, c.b, got)
		}
	}
}
