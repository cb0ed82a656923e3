package robq

import (
	"math"
	"math/rand"
	"slices"
	"testing"
	"unsafe"

	"augury/api"
)

// full is an Ent of which no field is zero, and none like another.
func full(n int) api.Ent {
	return api.Ent{PC: 100*n + 1, Val: 100*n + 2, Addr: 100*n + 3, From: 100*n + 4, Next: 100*n + 5, Done: true, Known: true, Fault: true}
}

// froms are Ents with these From, each with a Val and a flag of its own.
func froms(l ...int) []api.Ent {
	var ents []api.Ent
	for i, from := range l {
		ents = append(ents, api.Ent{PC: i + 20, Val: i + 10, Addr: i + 30, Next: i + 40, From: from, Done: i%2 == 0, Known: i%3 == 0, Fault: i%4 == 0})
	}
	return ents
}

var oddNumbers = []int{math.MinInt, math.MinInt + 1, -(1 << 32), -7, -2, -1, 0, 1, 2, 3, 6, 7, 1 << 31, 1 << 32, math.MaxInt - 1, math.MaxInt}

// 9.1: Push puts e behind l, whole, and leaves the others as they are.
func TestPush(t *testing.T) {
	for n := range 10 {
		l := froms(3, -1, 0, 2, 7, -1, 1, 0, 5)[:n]
		for _, e := range []api.Ent{{}, {From: -1}, {PC: 4, Done: true}, full(3), {PC: math.MinInt, Val: math.MaxInt, From: math.MinInt, Known: true}} {
			want := slices.Concat(l, []api.Ent{e})
			for _, most := range []int{n + 1, n + 2, n + 50, math.MaxInt} {
				if got, ok := Push(l, e, most); !slices.Equal(got, want) || !ok {
					t.Errorf("Push(%v, %v, %d) = %v, %v", l, e, most, got, ok)
				}
			}
		}
	}
}

// 9.1: Push is false, if l has most or more.
func TestPushNoRoom(t *testing.T) {
	for n := range 10 {
		l := froms(3, -1, 0, 2, 7, -1, 1, 0, 5)[:n]
		for _, most := range []int{n, n - 1, n - 2, 0, -1, -(1 << 32), math.MinInt} {
			if got, ok := Push(l, full(1), most); len(got) != 0 || ok {
				t.Errorf("Push(%v, .., %d) = %v, %v", l, most, got, ok)
			}
		}
	}
}

// 9.1: a window is filled up by Push, and not beyond.
func TestPushWindows(t *testing.T) {
	for window := 1; window <= 6; window++ {
		var l, want []api.Ent
		for i := range window {
			next, ok := Push(l, full(i), window)
			want = append(want, full(i))
			if !slices.Equal(next, want) || !ok {
				t.Fatal(window, i, next, ok)
			}
			l = next
		}
		if got, ok := Push(l, full(window), window); len(got) != 0 || ok {
			t.Error(window, got, ok)
		}
	}
}

// 9.1: Pop tells the first one as it is, and of the rest From alone is turned.
func TestPop(t *testing.T) {
	for _, x := range []struct{ from, want []int }{
		{[]int{-1}, nil},
		{[]int{0}, nil},
		{[]int{5}, nil},
		{[]int{-1, -1}, []int{-1}},
		{[]int{-1, 0}, []int{-1}},
		{[]int{-1, 1}, []int{0}},
		{[]int{2, 2}, []int{1}},
		{[]int{-1, 0, 1}, []int{-1, 0}},
		{[]int{0, 0, 0, 0}, []int{-1, -1, -1}},
		{[]int{4, 3, 2, 1, 0, -1}, []int{2, 1, 0, -1, -1}},
		{[]int{-1, -1, 1, 1, 3, 0, 6, 2, 9}, []int{-1, 0, 0, 2, -1, 5, 1, 8}},
		{[]int{0, -2, math.MinInt, math.MaxInt, -3}, []int{-2, math.MinInt, math.MaxInt - 1, -3}},
	} {
		l := froms(x.from...)
		want := slices.Clone(l[1:])
		for i := range want {
			want[i].From = x.want[i]
		}
		if first, rest, ok := Pop(l); first != l[0] || !slices.Equal(rest, want) || !ok {
			t.Errorf("Pop(%v) = %v, %v, %v, want %v", l, first, rest, ok, want)
		}
	}
	e := full(7)
	e.From--
	if first, rest, ok := Pop([]api.Ent{full(6), full(7)}); first != full(6) || !slices.Equal(rest, []api.Ent{e}) || !ok {
		t.Error(first, rest, ok)
	}
}

// 9.1: Pop of none is false, and nothing.
func TestPopNone(t *testing.T) {
	for _, l := range [][]api.Ent{nil, {}, make([]api.Ent, 0, 4), froms(1, 2)[:0], froms(1, 2)[2:]} {
		if first, rest, ok := Pop(l); first != (api.Ent{}) || len(rest) != 0 || ok {
			t.Error(l, first, rest, ok)
		}
	}
}

// 9.1: Cut is the first n as they are, n held to 0 to l's length.
func TestCut(t *testing.T) {
	for long := range 9 {
		l := froms(-1, 0, 1, 2, 0, 7, -2, 3)[:long]
		for _, n := range append([]int{long - 1, long, long + 1, 4, 5}, oddNumbers...) {
			var want []api.Ent
			for i, e := range l {
				if i < n {
					want = append(want, e)
				}
			}
			if got := Cut(l, n); !slices.Equal(got, want) {
				t.Errorf("Cut(%v, %d) = %v, want %v", l, n, got, want)
			}
		}
	}
	if got := Cut(nil, 3); len(got) != 0 {
		t.Error(got)
	}
	if got := Cut([]api.Ent{full(1), full(2), full(3)}, 2); !slices.Equal(got, []api.Ent{full(1), full(2)}) {
		t.Error(got)
	}
}

// 9.1: Put has e in place of the i-th, and all others as they are; false, if there is no i-th.
func TestPut(t *testing.T) {
	for long := range 9 {
		l := froms(-1, 0, 1, 2, 0, 7, -2, 3)[:long]
		for _, i := range append([]int{long - 1, long, long + 1, 4, 5}, oddNumbers...) {
			for _, e := range []api.Ent{{}, full(9), {From: -5, Val: 2}} {
				var want []api.Ent
				there := false
				for at, old := range l {
					if at == i {
						old, there = e, true
					}
					want = append(want, old)
				}
				if !there {
					want = nil
				}
				if got, ok := Put(l, i, e); !slices.Equal(got, want) || ok != there {
					t.Errorf("Put(%v, %d, %v) = %v, %v, want %v, %v", l, i, e, got, ok, want, there)
				}
			}
		}
	}
	if got, ok := Put(nil, 0, full(1)); len(got) != 0 || ok {
		t.Error(got, ok)
	}
}

// row is what is under way, told another way: each Ent has a mark of its own (Val), and what it comes from is told by mark.
type row struct {
	marks []int
	from  map[int]int
}

// ents tells a row in Ents; what comes from one that is gone has -1.
func (r row) ents() []api.Ent {
	var l []api.Ent
	for _, mark := range r.marks {
		l = append(l, api.Ent{PC: 2 * mark, Val: mark, From: slices.Index(r.marks, r.from[mark])})
	}
	return l
}

// fresh is an Ent that comes from one of the first n, or from none.
func (r row) fresh(rnd *rand.Rand, mark, n int) api.Ent {
	from := rnd.Intn(n+1) - 1
	r.from[mark] = -1
	if from >= 0 {
		r.from[mark] = r.marks[from]
	}
	return api.Ent{PC: 2 * mark, Val: mark, From: from}
}

// change does one thing to the row and to l, at random, and tells the l then, and the Val that was popped, or -1.
func (r *row) change(t *testing.T, rnd *rand.Rand, l []api.Ent, mark, most int) ([]api.Ent, int) {
	t.Helper()
	ok, out := true, -1
	switch what := rnd.Intn(10); {
	case what < 5 && len(l) < most:
		l, ok = Push(l, r.fresh(rnd, mark, len(l)), most)
		r.marks = append(slices.Clone(r.marks), mark)
	case what < 7 && len(l) > 0:
		var first api.Ent
		first, l, ok = Pop(l)
		r.marks, out = slices.Clone(r.marks[1:]), first.Val
	case what < 8 && len(l) > 0:
		// What comes behind the i-th may come from it, and is told so by its new mark.
		i := rnd.Intn(len(l))
		old := r.marks[i]
		l, ok = Put(l, i, r.fresh(rnd, mark, i))
		r.marks = slices.Clone(r.marks)
		r.marks[i] = mark
		for at, from := range r.from {
			if from == old {
				r.from[at] = mark
			}
		}
	case what < 9:
		n := rnd.Intn(len(l) + 1)
		l = Cut(l, n)
		r.marks = r.marks[:n]
	}
	if !ok {
		t.Fatal("false", l)
	}
	return l, out
}

// 9.2: the oldest goes first, however the row was filled and cut; and From goes on telling the same Ent, -1 when that is gone.
func TestOldestFirst(t *testing.T) {
	rnd := rand.New(rand.NewSource(9))
	popped := 0
	for range 1000 {
		most := 1 + rnd.Intn(6)
		r := row{from: map[int]int{}}
		var l []api.Ent
		for mark := range 100 {
			was := slices.Clone(r.marks)
			next, out := r.change(t, rnd, l, mark, most)
			if out >= 0 {
				popped++
				if out != was[0] {
					t.Fatal("popped", out, "of", was)
				}
			}
			if l = next; !slices.Equal(l, r.ents()) {
				t.Fatal(l, r.ents())
			}
		}
	}
	if popped < 10000 {
		t.Error("too few were popped", popped)
	}
}

// 9.2: what was pushed comes out in the same order, whole but for From.
func TestInOrder(t *testing.T) {
	for n := range 8 {
		var l []api.Ent
		for i := range n {
			e := full(i)
			e.From = -1
			l, _ = Push(l, e, n)
		}
		for i := range n {
			want := full(i)
			want.From = -1
			first, rest, ok := Pop(l)
			if first != want || len(rest) != n-i-1 || !ok {
				t.Fatal(n, i, first, rest, ok)
			}
			l = rest
		}
		if _, _, ok := Pop(l); ok || len(l) != 0 {
			t.Fatal(n, l, ok)
		}
	}
}

// 9.3: no call panics, whatever it is given, and each holds to its own lengths.
func TestNoPanic(t *testing.T) {
	var lists [][]api.Ent
	for n := range 9 {
		for _, x := range oddNumbers {
			e := api.Ent{PC: x, Val: -x, Addr: x, From: x, Next: x, Done: x > 0, Known: x < 0, Fault: x%2 == 0}
			lists = append(lists, slices.Repeat([]api.Ent{e}, n))
		}
	}
	lists = append(lists, nil, make([]api.Ent, 0, 9), make([]api.Ent, 10000))
	for _, l := range lists {
		if _, rest, ok := Pop(l); ok != (len(l) > 0) || len(rest) != max(len(l)-1, 0) {
			t.Fatal(l, rest, ok)
		}
		for _, n := range oddNumbers {
			e := api.Ent{PC: n, From: n}
			if got, ok := Push(l, e, n); ok != (len(l) < n) || ok && len(got) != len(l)+1 || !ok && len(got) != 0 {
				t.Fatal(l, n, got, ok)
			}
			if got := Cut(l, n); len(got) != min(max(n, 0), len(l)) {
				t.Fatal(l, n, got)
			}
			if got, ok := Put(l, n, e); ok != (0 <= n && n < len(l)) || ok && len(got) != len(l) || !ok && len(got) != 0 {
				t.Fatal(l, n, got, ok)
			}
		}
	}
}

// spared is n Ents with spare room behind them that no call may write to.
func spared(n int) []api.Ent {
	return append(froms(3, -1, 0, 2, 7, -1, 1, 0)[:n:n], full(50), full(51), full(52))[:n]
}

func untouched(l []api.Ent) bool {
	n := len(l)
	return slices.Equal(l[:n+3], spared(n)[:n+3])
}

// shares tells whether two lists, their spare room too, lie in the same memory.
func shares(a, b []api.Ent) bool {
	if cap(a) == 0 || cap(b) == 0 {
		return false
	}
	x, y := uintptr(unsafe.Pointer(unsafe.SliceData(a))), uintptr(unsafe.Pointer(unsafe.SliceData(b)))
	size := unsafe.Sizeof(api.Ent{})
	return x < y+uintptr(cap(b))*size && y < x+uintptr(cap(a))*size
}

// DOC.md's rule 3: what is handed in is not changed, nor its spare room; what is answered is new, its spare room too.
func TestMemory(t *testing.T) {
	for n := range 9 {
		l := spared(n)
		calls := []func() []api.Ent{func() []api.Ent {
			_, rest, _ := Pop(l)
			return rest
		}}
		for x := -1; x <= n+2; x++ {
			calls = append(calls,
				func() []api.Ent { got, _ := Push(l, full(1), x); return got },
				func() []api.Ent { return Cut(l, x) },
				func() []api.Ent { got, _ := Put(l, x, full(1)); return got },
			)
		}
		for i, call := range calls {
			a, b := call(), call()
			if shares(a, l) || shares(a, b) {
				t.Error(n, i, "shares")
			}
			was := slices.Clone(b)
			for at := range a[:cap(a)] {
				a[:cap(a)][at] = full(60)
			}
			if !untouched(l) || !slices.Equal(b, was) || !slices.Equal(call(), was) {
				t.Error(n, i, "changed", l)
			}
		}
	}
}

// What was answered is not kept: many rows made from one go on apart.
func TestApart(t *testing.T) {
	l, _ := Push(nil, full(0), 6)
	a, _ := Push(l, full(1), 6)
	b, _ := Push(l, full(2), 6)
	c, _ := Put(a, 0, full(3))
	_, d, _ := Pop(a)
	e := Cut(a, 1)
	f, _ := Push(e, full(4), 6)
	turned := full(1)
	turned.From--
	for i, x := range []struct{ got, want []api.Ent }{
		{l, []api.Ent{full(0)}},
		{a, []api.Ent{full(0), full(1)}},
		{b, []api.Ent{full(0), full(2)}},
		{c, []api.Ent{full(3), full(1)}},
		{d, []api.Ent{turned}},
		{e, []api.Ent{full(0)}},
		{f, []api.Ent{full(0), full(4)}},
	} {
		if !slices.Equal(x.got, x.want) {
			t.Error(i, x.got, x.want)
		}
	}
}
