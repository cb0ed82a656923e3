package oset

import (
	"bytes"
	"math"
	"math/rand"
	"slices"
	"strconv"
	"testing"
)

// model is a Set that is nothing but a list.
type model struct {
	most int
	keys []string
}

func (m *model) add(key string) (at int, fresh, ok bool) {
	if at := slices.Index(m.keys, key); at >= 0 {
		return at, false, true
	}
	if len(m.keys) >= m.most {
		return 0, false, false
	}
	m.keys = append(m.keys, key)
	return len(m.keys) - 1, true, true
}

func (m *model) rank(key string) int {
	n := 0
	for _, k := range m.keys {
		if below(k, key) {
			n++
		}
	}
	return n
}

// below is the order of rows of bytes as chapter 2 tells it: a shorter one first, then byte by byte.
func below(a, b string) bool {
	if len(a) != len(b) {
		return len(a) < len(b)
	}
	for i := range len(a) {
		if a[i] != b[i] {
			return a[i] < b[i]
		}
	}
	return false
}

// agrees holds a set against a model, asked of all its keys and of some others.
func agrees(t *testing.T, s *Set, m *model, others []string) {
	t.Helper()
	if s.Len() != len(m.keys) {
		t.Fatalf("Len() = %d, want %d", s.Len(), len(m.keys))
	}
	for i, k := range m.keys {
		if got, ok := s.At(i); string(got) != k || !ok {
			t.Fatalf("At(%d) = %q, %v, want %q", i, got, ok, k)
		}
	}
	for _, i := range []int{math.MinInt, -1, len(m.keys), len(m.keys) + 1, 1 << 40, math.MaxInt} {
		if got, ok := s.At(i); got != nil || ok {
			t.Fatalf("At(%d) of %d keys = %q, %v", i, len(m.keys), got, ok)
		}
	}
	for _, k := range slices.Concat(m.keys, others) {
		if got := s.Has([]byte(k)); got != slices.Contains(m.keys, k) {
			t.Fatalf("Has(%q) = %v", k, got)
		}
		if got := s.Rank([]byte(k)); got != m.rank(k) {
			t.Fatalf("Rank(%q) = %d, want %d", k, got, m.rank(k))
		}
	}
}

var edgeKeys = []string{
	"", "\x00", "\x01", "a", "b", "\x7f", "\x80", "\xff",
	"\x00\x00", "\x00\xff", "aa", "ab", "ba", "\xff\x00", "\xff\xff", "\xc3\xa4",
	"\x00\x00\x00", "aaa", "zzz", "\xff\xff\xff",
}

// 3.1: a new set has nothing.
func TestNew(t *testing.T) {
	for _, most := range []int{math.MinInt, -1, 0, 1, 5, 1000000, 1000001, math.MaxInt} {
		agrees(t, New(most), &model{most: most}, edgeKeys)
	}
}

// 3.1: Add: places in the order of coming, from 0, and whether a key came now.
func TestAdd(t *testing.T) {
	s := New(4)
	for i, x := range []struct {
		key       string
		at        int
		fresh, ok bool
	}{
		{"m", 0, true, true},
		{"m", 0, false, true},
		{"", 1, true, true},
		{"zz", 2, true, true},
		{"", 1, false, true},
		{"z", 3, true, true},
		{"q", 0, false, false},
		{"zz", 2, false, true},
		{"q", 0, false, false},
		{"zzz", 0, false, false},
		{"z", 3, false, true},
		{"m", 0, false, true},
	} {
		if at, fresh, ok := s.Add([]byte(x.key)); at != x.at || fresh != x.fresh || ok != x.ok {
			t.Errorf("%d: Add(%q) = %d, %v, %v", i, x.key, at, fresh, ok)
		}
	}
	agrees(t, s, &model{4, []string{"m", "", "zz", "z"}}, edgeKeys)
}

// 3.1: nil and an empty key are the same.
func TestNilKey(t *testing.T) {
	for _, pair := range [][2][]byte{{nil, {}}, {{}, nil}} {
		s := New(2)
		s.Add(pair[0])
		if at, fresh, ok := s.Add(pair[1]); at != 0 || fresh || !ok || s.Len() != 1 {
			t.Errorf("Add(%#v) behind the other: %d, %v, %v", pair[1], at, fresh, ok)
		}
		if !s.Has(pair[1]) || s.Rank(pair[1]) != 0 || s.Rank([]byte{0}) != 1 {
			t.Errorf("Has, Rank of %#v behind the other", pair[1])
		}
		if got, ok := s.At(0); len(got) != 0 || !ok {
			t.Errorf("At(0) = %q, %v", got, ok)
		}
	}
}

// 3.1: Rank: the order of code.Less, whatever the order of coming; of keys that are there and that are not.
func TestRank(t *testing.T) {
	s := New(10)
	for _, k := range []string{"b", "aa", "", "\xff", "a", "\x00\x00"} {
		s.Add([]byte(k))
	}
	for _, x := range []struct {
		key  string
		rank int
	}{
		{"", 0}, {"\x00", 1}, {"a", 1}, {"aa", 5}, {"b", 2}, {"c", 3}, {"\xff", 3},
		{"\x00\x00", 4}, {"\x00\x01", 5}, {"ab", 6}, {"\x00\x00\x00", 6},
	} {
		if got := s.Rank([]byte(x.key)); got != x.rank {
			t.Errorf("Rank(%q) = %d, want %d", x.key, got, x.rank)
		}
	}
}

// 3.1: most is held to 0 at least: such a set takes nothing.
func TestMostBelow(t *testing.T) {
	for _, most := range []int{math.MinInt, -1000000, -1, 0} {
		s := New(most)
		for _, k := range edgeKeys {
			if at, fresh, ok := s.Add([]byte(k)); at != 0 || fresh || ok {
				t.Fatalf("New(%d): Add(%q) = %d, %v, %v", most, k, at, fresh, ok)
			}
		}
		agrees(t, s, &model{}, edgeKeys)
	}
}

// 3.1: a set takes just as many as most says.
func TestMost(t *testing.T) {
	for most := range 40 {
		s, m := New(most), &model{most: most}
		for i := range most + 3 {
			k := strconv.Itoa(i * 7)
			at, fresh, ok := s.Add([]byte(k))
			if wantAt, wantFresh, wantOk := m.add(k); at != wantAt || fresh != wantFresh || ok != wantOk {
				t.Fatalf("New(%d): Add(%q) = %d, %v, %v", most, k, at, fresh, ok)
			}
		}
		agrees(t, s, m, edgeKeys)
	}
}

// 3.1: most is held to 1,000,000 at most; as many can be there, and be ranked.
func TestMostAbove(t *testing.T) {
	const mostOf = 1000000
	for _, most := range []int{mostOf, mostOf + 1, math.MaxInt} {
		s := New(most)
		for i := range mostOf {
			if at, fresh, ok := s.Add(number(i ^ 0x55555)); at != i || !fresh || !ok {
				t.Fatalf("New(%d): the %d-th Add: %d, %v, %v", most, i, at, fresh, ok)
			}
		}
		if at, fresh, ok := s.Add([]byte("more")); at != 0 || fresh || ok || s.Len() != mostOf {
			t.Fatalf("New(%d): one more: %d, %v, %v", most, at, fresh, ok)
		}
		if at, fresh, ok := s.Add(number(7 ^ 0x55555)); at != 7 || fresh || !ok {
			t.Fatalf("New(%d): a full set's own: %d, %v, %v", most, at, fresh, ok)
		}
		if most == math.MaxInt {
			rankMany(t, s)
		}
	}
}

func rankMany(t *testing.T, s *Set) {
	var l []int
	for i := range s.Len() {
		l = append(l, i^0x55555)
	}
	slices.Sort(l)
	for i := 0; i < len(l); i += 997 {
		if got := s.Rank(number(l[i])); got != i {
			t.Fatalf("Rank(%d) = %d, want %d", l[i], got, i)
		}
	}
}

// number's bytes are in order as the numbers are.
func number(n int) []byte {
	return []byte{byte(n >> 16), byte(n >> 8), byte(n)}
}

// 3.1, 3.2: sets that grow, asked at each step, are as lists are; the keys come rising, falling and mixed.
func TestGrow(t *testing.T) {
	const n = 150
	orders := map[string]func(i int) int{
		"rising":  func(i int) int { return i },
		"falling": func(i int) int { return n - i },
		"mixed":   func(i int) int { return i * 67 % n },
		"twice":   func(i int) int { return i / 2 * 31 % n },
	}
	for name, order := range orders {
		s, m := New(n), &model{most: n}
		for i := range n {
			k := strconv.Itoa(order(i))
			at, fresh, ok := s.Add([]byte(k))
			if wantAt, wantFresh, wantOk := m.add(k); at != wantAt || fresh != wantFresh || ok != wantOk {
				t.Fatalf("%s: Add(%q) = %d, %v, %v", name, k, at, fresh, ok)
			}
			agrees(t, s, m, edgeKeys)
		}
	}
}

// 3.1, 3.2: calls mixed as it comes are answered as by a list; Rank is asked now and then, so that what came since is more than one.
func TestMixed(t *testing.T) {
	r := rand.New(rand.NewSource(3))
	for range 60 {
		most := r.Intn(120)
		s, m := New(most), &model{most: most}
		for range 300 {
			k := mixedKey(r)
			at, fresh, ok := s.Add([]byte(k))
			if wantAt, wantFresh, wantOk := m.add(k); at != wantAt || fresh != wantFresh || ok != wantOk {
				t.Fatalf("Add(%q) = %d, %v, %v", k, at, fresh, ok)
			}
			if r.Intn(20) == 0 {
				agrees(t, s, m, []string{mixedKey(r), mixedKey(r)})
			}
		}
		agrees(t, s, m, edgeKeys)
	}
}

func mixedKey(r *rand.Rand) string {
	b := make([]byte, r.Intn(5))
	for i := range b {
		b[i] = "\x00ab\x80\xff"[r.Intn(5)]
	}
	return string(b)
}

// 3.2: nothing is stored twice, however often it comes; to ask stores nothing.
func TestOnce(t *testing.T) {
	s := New(1000)
	for round := range 5 {
		for i, k := range edgeKeys {
			at, fresh, ok := s.Add([]byte(k))
			if at != i || fresh != (round == 0) || !ok {
				t.Fatalf("Add(%q) = %d, %v, %v", k, at, fresh, ok)
			}
			s.Has([]byte("other"))
			s.Rank([]byte("other"))
		}
	}
	if s.Len() != len(edgeKeys) {
		t.Errorf("Len() = %d", s.Len())
	}
	seen := map[string]int{}
	for i := range s.Len() {
		k, _ := s.At(i)
		seen[string(k)]++
	}
	if len(seen) != s.Len() {
		t.Errorf("%d keys, %d of them different", s.Len(), len(seen))
	}
}

// 3.2: a key is the same by its bytes alone, wherever they lie.
func TestSameBytes(t *testing.T) {
	s := New(9)
	room := []byte("abcabc")
	s.Add(room[:3])
	if at, fresh, ok := s.Add(room[3:]); at != 0 || fresh || !ok || s.Len() != 1 {
		t.Errorf("the same bytes elsewhere: %d, %v, %v", at, fresh, ok)
	}
	if at, fresh, ok := s.Add(room[:2]); at != 1 || !fresh || !ok {
		t.Errorf("a beginning of a key: %d, %v, %v", at, fresh, ok)
	}
}

// 3.1: sets do not know of each other.
func TestApart(t *testing.T) {
	a, b := New(3), New(3)
	a.Add([]byte("x"))
	if b.Len() != 0 || b.Has([]byte("x")) || b.Rank([]byte("y")) != 0 {
		t.Error("what one set was given is in another")
	}
}

// Rule 3: what is handed in stays as it was, the spare room behind it too, and is not kept.
func TestHandedIn(t *testing.T) {
	s := New(9)
	room := []byte("abcdef")
	s.Add(room[:3])
	s.Add(room[:3])
	s.Has(room[:2])
	s.Rank(room[:4])
	if string(room) != "abcdef" {
		t.Errorf("a key handed in is changed: %q", room)
	}
	copy(room, "zzzzzz")
	agrees(t, s, &model{9, []string{"abc"}}, []string{"zzz", "abcdef"})
}

// Rule 3: what is answered is new, its spare room too.
func TestAnswered(t *testing.T) {
	s := New(9)
	for _, k := range []string{"abc", "", "abd"} {
		s.Add([]byte(k))
	}
	for i := range s.Len() {
		one, _ := s.At(i)
		two, _ := s.At(i)
		was := bytes.Clone(two)
		for k := range one[:cap(one)] {
			one[:cap(one)][k] = 'z'
		}
		if !bytes.Equal(two, was) {
			t.Errorf("two answers of At(%d) share memory", i)
		}
	}
	agrees(t, s, &model{9, []string{"abc", "", "abd"}}, []string{"zzz"})
}

// 3.3: no call panics, whatever it is given.
func TestNoPanic(t *testing.T) {
	defer func() {
		if r := recover(); r != nil {
			t.Fatalf("a call panics: %v", r)
		}
	}()
	keys := [][]byte{nil, {}, {0}, {255, 255}, bytes.Repeat([]byte{7}, 100000)}
	for _, most := range []int{math.MinInt, -1, 0, 1, 2, 1000000, math.MaxInt} {
		s := New(most)
		for _, k := range keys {
			s.Rank(k)
			s.Has(k)
			s.Add(k)
			s.Add(k)
			s.Rank(k)
		}
		for _, i := range []int{math.MinInt, -2, -1, 0, 1, 5, 6, 1 << 40, math.MaxInt} {
			s.At(i)
		}
		s.Len()
	}
}
