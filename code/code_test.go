package code

import (
	"bytes"
	"math"
	"math/rand"
	"slices"
	"testing"
)

var edgeNumbers = []int{
	math.MinInt, math.MinInt + 1, -(1 << 32), -65536, -257, -256, -255, -254, -3, -2, -1,
	0, 1, 2, 7, 8, 9, 44, 127, 128, 251, 252, 253, 254, 255, 256, 257, 300, 511, 512,
	65535, 65536, 1 << 31, 1 << 32, math.MaxInt - 1, math.MaxInt,
}

// examples are written out, so that they lean on nothing of what is tested.
var examples = []struct {
	l []int
	b []byte
}{
	{nil, nil},
	{[]int{0, 300}, []byte{1, 255, 0, 0, 0, 0, 0, 0, 1, 44}},
	{[]int{-1}, []byte{0}},
	{[]int{0}, []byte{1}},
	{[]int{5, 5, 5}, []byte{6, 6, 6}},
	{[]int{252, 253}, []byte{253, 254}},
	{[]int{254}, []byte{255, 0, 0, 0, 0, 0, 0, 0, 254}},
	{[]int{255}, []byte{255, 0, 0, 0, 0, 0, 0, 0, 255}},
	{[]int{256}, []byte{255, 0, 0, 0, 0, 0, 0, 1, 0}},
	{[]int{-2}, []byte{255, 255, 255, 255, 255, 255, 255, 255, 254}},
	{[]int{-256}, []byte{255, 255, 255, 255, 255, 255, 255, 255, 0}},
	{[]int{0x0102030405060708}, []byte{255, 1, 2, 3, 4, 5, 6, 7, 8}},
	{[]int{math.MaxInt}, []byte{255, 127, 255, 255, 255, 255, 255, 255, 255}},
	{[]int{math.MinInt}, []byte{255, 128, 0, 0, 0, 0, 0, 0, 0}},
	{[]int{300, -1, -300, 253}, []byte{255, 0, 0, 0, 0, 0, 0, 1, 44, 0, 255, 255, 255, 255, 255, 255, 255, 254, 212, 254}},
}

// 2.1: Put, and Get back.
func TestExamples(t *testing.T) {
	for _, x := range examples {
		if b := Put(x.l...); !bytes.Equal(b, x.b) {
			t.Errorf("Put(%v) = %v", x.l, b)
		}
		if l, ok := Get(x.b); !slices.Equal(l, x.l) || !ok {
			t.Errorf("Get(%v) = %v, %v", x.b, l, ok)
		}
	}
}

// 2.1: Put takes as many numbers as one likes, told one by one or as a list.
func TestVariadic(t *testing.T) {
	if b := Put(); len(b) != 0 {
		t.Errorf("Put() = %v", b)
	}
	if b := Put([]int{}...); len(b) != 0 {
		t.Errorf("Put of an empty list = %v", b)
	}
	if !bytes.Equal(Put(1, 254, 2), Put([]int{1, 254, 2}...)) {
		t.Error("numbers told one by one are told otherwise than as a list")
	}
	many := make([]int, 100000)
	for i := range many {
		many[i] = i - 1000
	}
	if l, ok := Get(Put(many...)); !slices.Equal(l, many) || !ok {
		t.Error("a long row does not come back")
	}
}

// 2.1: which numbers have one byte, and which.
func TestOneByte(t *testing.T) {
	for n := -70000; n <= 70000; n++ {
		b := Put(n)
		if -1 <= n && n <= 253 {
			if len(b) != 1 || int(b[0]) != n+1 {
				t.Fatalf("Put(%d) = %v", n, b)
			}
			continue
		}
		if len(b) != 9 || b[0] != 255 {
			t.Fatalf("Put(%d) = %v", n, b)
		}
	}
}

// 2.1: Get of all rows of edge numbers, up to three.
func TestBack(t *testing.T) {
	for _, l := range rows() {
		if got, ok := Get(Put(l...)); !slices.Equal(got, l) || !ok {
			t.Fatalf("Get(Put(%v)) = %v, %v", l, got, ok)
		}
	}
}

func rows() [][]int {
	all := [][]int{nil}
	for _, a := range edgeNumbers {
		all = append(all, []int{a})
		for _, b := range edgeNumbers {
			all = append(all, []int{a, b})
			for _, c := range edgeNumbers {
				all = append(all, []int{a, b, c})
			}
		}
	}
	return all
}

// 2.1: Get of what Put does not tell: too few bytes behind a 255, or a number there that has one byte.
func TestNotTold(t *testing.T) {
	wrong := [][]byte{
		{255},
		{255, 255},
		{255, 0, 0, 0, 0, 0, 0, 1},
		{1, 2, 255},
		{1, 255, 0, 0, 0, 0, 0, 0, 1},
		{255, 0, 0, 0, 0, 0, 0, 1, 0, 255},
		{255, 0, 0, 0, 0, 0, 0, 1, 0, 255, 0, 0, 0, 0, 0, 0, 1},
		{255, 255, 255, 255, 255, 255, 255, 255, 255},
		{7, 255, 0, 0, 0, 0, 0, 0, 0, 9},
		{255, 0, 0, 0, 0, 0, 0, 0, 9, 7},
		{255, 0, 0, 0, 0, 0, 0, 1, 0, 255, 0, 0, 0, 0, 0, 0, 0, 253},
	}
	for n := range 254 {
		wrong = append(wrong, []byte{255, 0, 0, 0, 0, 0, 0, 0, byte(n)})
	}
	for _, b := range wrong {
		if l, ok := Get(b); len(l) != 0 || ok {
			t.Errorf("Get(%v) = %v, %v", b, l, ok)
		}
	}
}

// 2.1: Get of each beginning of what Put tells: that of whole numbers, or false and nothing.
func TestBeginnings(t *testing.T) {
	for _, x := range examples {
		ends := map[int]int{}
		for k := range x.l {
			ends[len(Put(x.l[:k]...))] = k
		}
		ends[len(x.b)] = len(x.l)
		for n := range len(x.b) + 1 {
			k, whole := ends[n]
			l, ok := Get(x.b[:n])
			if ok != whole || !slices.Equal(l, x.l[:k]) {
				t.Errorf("Get(%v) = %v, %v", x.b[:n], l, ok)
			}
		}
	}
}

// 2.1: nil and an empty row of bytes are the row of none.
func TestGetNone(t *testing.T) {
	for _, b := range [][]byte{nil, {}} {
		if l, ok := Get(b); len(l) != 0 || !ok {
			t.Errorf("Get(%#v) = %v, %v", b, l, ok)
		}
	}
}

// 2.1: Less: a list that is in order, all held against all.
func TestLess(t *testing.T) {
	l := [][]byte{
		nil, {0}, {1}, {127}, {128}, {254}, {255},
		{0, 0}, {0, 1}, {0, 255}, {1, 0}, {1, 1}, {128, 0}, {255, 0}, {255, 255},
		{0, 0, 0}, {0, 0, 255}, {0, 1, 0}, {9, 0, 0}, {255, 255, 255},
		{0, 0, 0, 0, 0, 0, 0, 0, 0}, {0, 0, 0, 0, 0, 0, 0, 0, 1},
	}
	for i, a := range l {
		for k, b := range l {
			if got := Less(a, b); got != (i < k) {
				t.Errorf("Less(%v, %v) = %v", a, b, got)
			}
		}
	}
	if Less(nil, []byte{}) || Less([]byte{}, nil) {
		t.Error("nil and an empty row are not the same")
	}
}

// 2.2: different rows of numbers have different bytes, the same rows the same.
func TestSameBytesSameRow(t *testing.T) {
	all := rows()
	seen := map[string][]int{}
	for _, l := range all {
		b := string(Put(l...))
		if other, ok := seen[b]; ok {
			t.Fatalf("%v and %v have the same bytes", l, other)
		}
		seen[b] = l
		if b != string(Put(slices.Clone(l)...)) {
			t.Fatalf("%v has other bytes when it is told again", l)
		}
	}
}

// 2.2: what Get takes are just the bytes that Put tells of what it answers.
func TestGetTakesOneForm(t *testing.T) {
	for _, b := range manyBytes() {
		l, ok := Get(b)
		if ok && !bytes.Equal(Put(l...), b) {
			t.Fatalf("Get(%v) = %v, whose bytes are %v", b, l, Put(l...))
		}
		if !ok && len(l) != 0 {
			t.Fatalf("Get(%v) = %v beside a false", b, l)
		}
	}
}

// manyBytes are rows of bytes of all kinds, the same ones each time.
func manyBytes() [][]byte {
	all := [][]byte{nil, {}}
	for a := range 256 {
		all = append(all, []byte{byte(a)})
		all = append(all, []byte{255, 0, 0, 0, 0, 0, 0, 0, byte(a)})
		all = append(all, []byte{255, 255, 255, 255, 255, 255, 255, 255, byte(a)})
		for b := range 256 {
			all = append(all, []byte{byte(a), byte(b)})
		}
	}
	r := rand.New(rand.NewSource(2))
	some := []byte{0, 1, 253, 254, 255}
	for range 100000 {
		b := make([]byte, r.Intn(24))
		for i := range b {
			b[i] = some[r.Intn(len(some))]
			if r.Intn(4) == 0 {
				b[i] = byte(r.Intn(256))
			}
		}
		all = append(all, b)
	}
	return all
}

// Rule 3: what is handed in stays as it was, the spare room behind it too; what is answered is new.
func TestHandedIn(t *testing.T) {
	room := []int{7, 254, 8, 9, 10}
	b := Put(room[:3]...)
	if !slices.Equal(room, []int{7, 254, 8, 9, 10}) {
		t.Errorf("Put changed its numbers: %v", room)
	}
	again := Put(room[:3]...)
	for i := range b[:cap(b)] {
		b[:cap(b)][i] = 77
	}
	if !bytes.Equal(again, []byte{8, 255, 0, 0, 0, 0, 0, 0, 0, 254, 9}) {
		t.Errorf("two answers of Put share memory: %v", again)
	}

	bytesRoom := []byte{8, 255, 0, 0, 0, 0, 0, 0, 0, 254, 9, 1, 2}
	was := bytes.Clone(bytesRoom)
	l, _ := Get(bytesRoom[:11])
	for i := range l[:cap(l)] {
		l[:cap(l)][i] = 77
	}
	Less(bytesRoom[:11], bytesRoom[:10])
	if !bytes.Equal(bytesRoom, was) {
		t.Errorf("bytes handed in are changed: %v", bytesRoom)
	}
	if l, ok := Get(bytesRoom[:11]); !slices.Equal(l, []int{7, 254, 8}) || !ok {
		t.Errorf("two answers of Get share memory: %v, %v", l, ok)
	}
}

// 2.3: no call panics, whatever it is given.
func TestNoPanic(t *testing.T) {
	defer func() {
		if r := recover(); r != nil {
			t.Fatalf("a call panics: %v", r)
		}
	}()
	Put(edgeNumbers...)
	Put(nil...)
	all := manyBytes()
	for i, b := range all {
		Get(b)
		Less(b, all[len(all)-1-i])
		Less(b, nil)
		Less(nil, b)
	}
}
