package retb

import (
	"fmt"
	"math"
	"math/rand"
	"reflect"
	"slices"
	"strings"
	"testing"
	"unsafe"

	"augury/api"
	"augury/prog"
	"augury/robq"
	"augury/seqm"
)

func read(t *testing.T, lines ...string) api.Prog {
	t.Helper()
	p, line, at, ok := prog.Parse(strings.Join(lines, "\n"))
	if !ok {
		t.Fatalf("Parse(%q) is false at %d, %d", lines, line, at)
	}
	return p
}

// Where kinds has its call and its return.
const (
	calling   = 7
	returning = 8
)

// kinds is a program of each kind of instruction.
func kinds(t *testing.T) api.Prog {
	return read(t, "width 4", "public a 4",
		"add r1, r0, 1", "load r1, [r0 + 0]", "store [r0 + 0], r1", "cmov r1, r0, 2",
		"br lt r1, 2, out", "jmp out", "ind r1", "call out", "ret", "fence", "halt", "out:")
}

// path is the Ents of kinds that letters tell: c a call, r a return, x another.
func path(letters string) []api.Ent {
	var l []api.Ent
	for _, c := range letters {
		l = append(l, api.Ent{PC: map[rune]int{'c': calling, 'r': returning, 'x': 0}[c], From: -1})
	}
	return l
}

var oddNumbers = []int{math.MinInt, math.MinInt + 1, -(1 << 32), -17, -2, -1, 0, 1, 2, 3, 4, 5, 6, 15, 16, 17, 1 << 31, 1 << 32, math.MaxInt - 1, math.MaxInt}

// popped is what Pop answers.
type popped struct {
	pc   int
	rest []int
	ok   bool
}

func pop(l []int) popped {
	pc, rest, ok := Pop(l)
	return popped{pc, rest, ok}
}

func (a popped) same(b popped) bool {
	return a.pc == b.pc && slices.Equal(a.rest, b.rest) && a.ok == b.ok
}

// 12.1: Push puts pc behind l, and of more than two the first ones go.
func TestPush(t *testing.T) {
	for _, x := range []struct {
		l    []int
		pc   int
		want []int
	}{
		{nil, 0, []int{0}},
		{[]int{}, 32, []int{32}},
		{[]int{7}, 3, []int{7, 3}},
		{[]int{7}, 7, []int{7, 7}},
		{[]int{1, 2}, 3, []int{2, 3}},
		{[]int{2, 2}, 2, []int{2, 2}},
		{[]int{4, 3, 2}, 1, []int{2, 1}},
		{[]int{9, 8, 7, 6, 5}, 0, []int{5, 0}},
	} {
		if got := Push(x.l, x.pc); !slices.Equal(got, x.want) {
			t.Errorf("Push(%v, %d) = %v, want %v", x.l, x.pc, got, x.want)
		}
	}
}

// 12.1: Push takes any number, as it stands.
func TestPushAny(t *testing.T) {
	for _, a := range oddNumbers {
		for _, b := range oddNumbers {
			for _, pc := range oddNumbers {
				if got := Push([]int{a}, pc); !slices.Equal(got, []int{a, pc}) {
					t.Fatal(a, pc, got)
				}
				if got := Push([]int{a, b}, pc); !slices.Equal(got, []int{b, pc}) {
					t.Fatal(a, b, pc, got)
				}
			}
		}
	}
}

// 12.1: Pop tells the last one, and all ahead of it, however many; false of none.
func TestPop(t *testing.T) {
	for _, x := range []struct {
		l    []int
		want popped
	}{
		{nil, popped{}},
		{[]int{}, popped{}},
		{make([]int, 0, 4), popped{}},
		{[]int{0}, popped{0, nil, true}},
		{[]int{5}, popped{5, nil, true}},
		{[]int{7, 8}, popped{8, []int{7}, true}},
		{[]int{7, 0}, popped{0, []int{7}, true}},
		{[]int{1, 2, 3}, popped{3, []int{1, 2}, true}},
		{[]int{4, 4, 1, 9, 6}, popped{6, []int{4, 4, 1, 9}, true}},
		{[]int{math.MaxInt, math.MinInt}, popped{math.MinInt, []int{math.MaxInt}, true}},
	} {
		if got := pop(x.l); !got.same(x.want) {
			t.Errorf("Pop(%v) = %v, want %v", x.l, got, x.want)
		}
	}
}

// 12.1: pushed and popped at random a buffer tells what came last, and once more what came ahead of that; what went for want of room does not come back.
func TestBuffer(t *testing.T) {
	const none = -1
	r := rand.New(rand.NewSource(12))
	for range 2000 {
		var l []int
		last, ahead := none, none
		for pc := range 30 {
			if r.Intn(2) == 0 {
				l, last, ahead = Push(l, pc), pc, last
				continue
			}
			got, want := pop(l), popped{}
			if last != none {
				want = popped{last, nil, true}
			}
			if ahead != none {
				want.rest = []int{ahead}
			}
			if !got.same(want) {
				t.Fatalf("Pop(%v) = %v, want %v", l, got, want)
			}
			l, last, ahead = got.rest, ahead, none
		}
	}
}

// met is what Real answers.
type met struct {
	stack []int
	ok    bool
}

func realOf(p api.Prog, stack []int, l []api.Ent, i int) met {
	got, ok := Real(p, stack, l, i)
	return met{got, ok}
}

func (a met) same(b met) bool {
	return slices.Equal(a.stack, b.stack) && a.ok == b.ok
}

// 12.1: only a call and a return turn the Stack, and nothing else than an Ent's PC counts.
func TestRealKinds(t *testing.T) {
	p := kinds(t)
	full := []int{5, 0, 3, 11}
	for pc := -2; pc < len(p.Ins)+3; pc++ {
		for n := range 8 {
			e := api.Ent{PC: pc, Val: 3, Addr: 1, From: n - 2, Next: n, Done: n&1 != 0, Known: n&2 != 0, Fault: n&4 != 0}
			for depth := range 5 {
				stack := full[:depth]
				want := met{stack, true}
				switch {
				case pc == calling && depth == 4, pc == returning && depth == 0:
					want = met{}
				case pc == calling:
					want.stack = append(slices.Clone(stack), calling+1)
				case pc == returning:
					want.stack = stack[:depth-1]
				}
				if got := realOf(p, stack, []api.Ent{e}, 1); !got.same(want) {
					t.Errorf("Real(%v, %v) = %v, want %v", stack, e, got, want)
				}
			}
		}
	}
}

// 12.1: all Ents ahead of the i-th count, none at it or behind it; i below 0 has none ahead, i beyond all has all.
func TestRealAhead(t *testing.T) {
	p := kinds(t)
	const back = calling + 1
	none := met{}
	for _, x := range []struct {
		stack   []int
		letters string
		want    []met
	}{
		{nil, "", []met{{nil, true}}},
		{[]int{3}, "", []met{{[]int{3}, true}}},
		{nil, "cxc", []met{{nil, true}, {[]int{back}, true}, {[]int{back}, true}, {[]int{back, back}, true}}},
		{[]int{3, 4}, "rcr", []met{{[]int{3, 4}, true}, {[]int{3}, true}, {[]int{3, back}, true}, {[]int{3}, true}}},
		{nil, "cccccr", []met{{nil, true}, {[]int{back}, true}, {[]int{back, back}, true}, {[]int{back, back, back}, true}, {[]int{back, back, back, back}, true}, none, none}},
		{[]int{1, 2, 3, 4}, "cr", []met{{[]int{1, 2, 3, 4}, true}, none, none}},
		{[]int{1, 2, 3, 4}, "rcc", []met{{[]int{1, 2, 3, 4}, true}, {[]int{1, 2, 3}, true}, {[]int{1, 2, 3, back}, true}, none}},
		{[]int{6}, "rrc", []met{{[]int{6}, true}, {nil, true}, none, none}},
		{nil, "rcc", []met{{nil, true}, none, none, none}},
	} {
		l := path(x.letters)
		for _, i := range append([]int{len(l)}, oddNumbers...) {
			want := x.want[min(max(i, 0), len(l))]
			if got := realOf(p, x.stack, l, i); !got.same(want) {
				t.Errorf("Real(%v, %q, %d) = %v, want %v", x.stack, x.letters, i, got, want)
			}
		}
	}
}

// 12.1: what a call puts is its own PC and 1, and a call of the last instruction too.
func TestRealPlaces(t *testing.T) {
	p := read(t, "width 3", "f:", "call f", "call g", "ret", "g:", "ret", "call f")
	l := []api.Ent{{PC: 0}, {PC: 1}, {PC: 3}, {PC: 4}, {PC: 2}, {PC: 4}, {PC: 1}}
	for i, want := range [][]int{{7}, {7, 1}, {7, 1, 2}, {7, 1}, {7, 1, 5}, {7, 1}, {7, 1, 5}, {7, 1, 5, 2}} {
		if got := realOf(p, []int{7}, l, i); !got.same(met{want, true}) {
			t.Errorf("Real(%d) = %v, want %v", i, got, want)
		}
	}
}

// 12.1: a Stack that has more than there is room for is told as it stands; nothing more comes to it.
func TestRealTooMany(t *testing.T) {
	p := kinds(t)
	stack := []int{1, 2, 3, 4, 5, 6}
	for letters, want := range map[string]met{
		"":     {stack, true},
		"x":    {stack, true},
		"r":    {stack[:5], true},
		"rr":   {stack[:4], true},
		"c":    {},
		"rc":   {},
		"rrc":  {},
		"rrrc": {[]int{1, 2, 3, calling + 1}, true},
	} {
		if got := realOf(p, stack, path(letters), len(letters)); !got.same(want) {
			t.Errorf("Real(%q) = %v, want %v", letters, got, want)
		}
	}
}

// modelReal has an array of its own, and counts what is in it.
func modelReal(stack []int, l []api.Ent, i int) met {
	var places [5]int
	top := copy(places[:], stack)
	for at := 0; at < i && at < len(l); at++ {
		if l[at].PC == calling {
			places[top] = calling + 1
			top++
		}
		if l[at].PC == returning {
			top--
		}
		if top < 0 || top > 4 {
			return met{}
		}
	}
	return met{places[:top], true}
}

// 12.1: of all paths of up to six Ents, and Stacks of each depth, Real answers as the model does; and when the oldest is committed and popped, it tells of the others what it told.
func TestRealAll(t *testing.T) {
	p := kinds(t)
	paths := []string{""}
	for range 6 {
		for _, s := range paths {
			paths = append(paths, s+"c", s+"r", s+"x")
		}
		slices.Sort(paths)
		paths = slices.Compact(paths)
	}
	for _, letters := range paths {
		l := path(letters)
		_, rest, _ := robq.Pop(l)
		for depth := range 5 {
			stack := []int{11, 12, 13, 14}[:depth]
			first := realOf(p, stack, l, 1)
			for i := range len(l) + 2 {
				want := modelReal(stack, l, i)
				if got := realOf(p, stack, l, i); !got.same(want) {
					t.Fatalf("Real(%v, %q, %d) = %v, want %v", stack, letters, i, got, want)
				}
				if i > 0 && first.ok {
					if got := realOf(p, first.stack, rest, i-1); !got.same(want) {
						t.Fatalf("Real(%v, %q, %d), popped = %v, want %v", stack, letters, i, got, want)
					}
				}
			}
		}
	}
}

// someProg is a program made at random, mostly of calls and returns.
func someProg(t *testing.T, r *rand.Rand) api.Prog {
	lines := []string{"width 4"}
	n := 4 + r.Intn(8)
	for i := range n {
		lines = append(lines, fmt.Sprintf("l%d:", i))
		lines = append(lines, []string{
			fmt.Sprintf("call l%d", r.Intn(n)),
			fmt.Sprintf("call l%d", r.Intn(n)),
			fmt.Sprintf("call l%d", r.Intn(n)),
			fmt.Sprintf("jmp l%d", r.Intn(n)),
			"ret", "ret", "ret", "fence", "add r0, r0, 1", "halt",
		}[r.Intn(10)])
	}
	return read(t, lines...)
}

// machine fetches by what the buffer guesses, and finds out by Real where a return goes.
type machine struct {
	p     api.Prog
	s     api.State
	l     []api.Ent
	rsb   []int
	next  int
	wrong int
}

func begin(r *rand.Rand, p api.Prog) *machine {
	m := &machine{p: p}
	for range r.Intn(5) {
		m.s.Stack = append(m.s.Stack, r.Intn(len(p.Ins)+1))
	}
	for range r.Intn(4) {
		m.rsb = Push(m.rsb, r.Intn(len(p.Ins)+1))
	}
	return m
}

func (m *machine) fetch(r *rand.Rand) {
	if m.next < 0 || len(m.l) == 6 {
		return
	}
	e := api.Ent{PC: m.next, From: -1, Next: m.next + 1, Done: true}
	switch in := seqm.At(m.p, m.next); in.Kind {
	case api.IJmp:
		e.Next = in.Target
	case api.ICall:
		e.Next = in.Target
		m.rsb = Push(m.rsb, m.next+1)
	case api.IRet:
		e.Done = false
		pc, rest, ok := Pop(m.rsb)
		m.rsb = rest
		if !ok {
			pc = r.Intn(len(m.p.Ins) + 1)
		}
		e.Next = pc
	case api.IHalt, api.IFault:
		e.Next = -1
	}
	m.next = e.Next
	m.l = append(m.l, e)
}

// do does the i-th, if it is a return, and drops what is behind it, if that was guessed wrongly.
func (m *machine) do(i int) {
	if m.l[i].Done {
		return
	}
	m.l[i].Done = true
	stack, ok := Real(m.p, m.s.Stack, m.l, i)
	if !ok || len(stack) == 0 {
		m.l[i].Fault = true
		return
	}
	if where := stack[len(stack)-1]; where != m.l[i].Next {
		m.wrong++
		m.l = robq.Cut(m.l, i+1)
		m.l[i].Next, m.next = where, where
	}
}

// commit commits the oldest, if that is done, and tells what is wrong with what it comes to, and whether it goes on.
func (m *machine) commit() (string, bool) {
	if len(m.l) == 0 || !m.l[0].Done {
		return "", true
	}
	e, rest, _ := robq.Pop(m.l)
	want, _, end := seqm.Step(m.p, m.s)
	got := realOf(m.p, m.s.Stack, m.l, 1)
	kind := seqm.At(m.p, e.PC).Kind
	switch turns := kind == api.ICall || kind == api.IRet; {
	case e.PC != m.s.PC:
		return "what is not next", false
	case end == 0 && (!got.same(met{want.Stack, true}) || e.Next != want.PC):
		return "what one by one does not come to", false
	case end != 0 && turns && (got.ok || kind == api.IRet && !e.Fault):
		return "what one by one can't", false
	}
	m.s, m.l = want, rest
	return "", end == 0
}

// 12.2: whatever the buffer guesses, what is committed is what the program does one by one.
func TestCommitted(t *testing.T) {
	r := rand.New(rand.NewSource(120))
	wrong, steps := 0, 0
	for range 5000 {
		m := begin(r, someProg(t, r))
		goes, what := true, ""
		for acts := 0; goes && acts < 300; acts++ {
			switch n := r.Intn(4); {
			case n < 2:
				m.fetch(r)
			case n == 2 && len(m.l) > 0:
				m.do(r.Intn(len(m.l)))
			default:
				what, goes = m.commit()
				steps++
			}
			if what != "" {
				t.Fatalf("%v: %v, %v: commits %s", m.p, m.s, m.l, what)
			}
			if got := realOf(m.p, m.s.Stack, m.l, 0); !got.same(met{m.s.Stack, true}) {
				t.Fatalf("%v: %v, the first would meet %v", m.p, m.s, got)
			}
		}
		wrong += m.wrong
	}
	if wrong < 1000 || steps < 20000 {
		t.Error("too little was tried", wrong, steps)
	}
}

// 12.2: calls deeper than the buffer come back all the same, though the buffer has no guess then.
func TestDeep(t *testing.T) {
	p := read(t, "width 4", "call a", "halt", "a:", "call b", "ret", "b:", "call c", "ret", "c:", "call d", "ret", "d:", "ret")
	var l []api.Ent
	var rsb []int
	for _, pc := range []int{0, 2, 4, 6} {
		l, rsb = append(l, api.Ent{PC: pc}), Push(rsb, pc+1)
	}
	stack, rets := []int{1, 3, 5, 7}, []int{8, 7, 5, 3}
	for n, pc := range rets {
		left := stack[:4-n]
		if got := realOf(p, nil, l, len(l)); !got.same(met{left, true}) {
			t.Fatalf("Real(%v) = %v, want %v", l, got, left)
		}
		want := popped{}
		if n < 2 {
			want = popped{left[len(left)-1], left[2 : len(left)-1], true}
		}
		guess := pop(rsb)
		if !guess.same(want) {
			t.Fatalf("Pop(%v) = %v, want %v", rsb, guess, want)
		}
		l, rsb = append(l, api.Ent{PC: pc}), guess.rest
	}
	if got := realOf(p, nil, l, len(l)); !got.same(met{nil, true}) {
		t.Error(got)
	}
}

// oddProgs are programs that can't be.
func oddProgs() []api.Prog {
	l := []api.Prog{{}, {W: 4}, {W: math.MinInt, Mems: []api.Mem{{N: math.MaxInt}}}}
	for _, w := range []int{-1, 0, 4, 17} {
		for _, n := range oddNumbers {
			p := api.Prog{W: w, Regs: [4]int{n, n, n, n}, Window: n, Fuel: n, Mems: []api.Mem{{N: n}, {N: n}}}
			v := api.Val{Reg: true, N: n}
			for kind := -1; kind <= 13; kind++ {
				p.Ins = append(p.Ins, api.Ins{Kind: kind, Op: n, D: n, A: v, B: v, Target: n})
			}
			l = append(l, p, api.Prog{W: w, Ins: []api.Ins{{Kind: n, D: n}}})
		}
	}
	return l
}

// 12.3: no call panics, and each ends, whatever it is given; beside a false all is zero.
func TestNoPanic(t *testing.T) {
	for _, p := range oddProgs() {
		for _, x := range oddNumbers {
			e := api.Ent{PC: x, Val: x, Addr: x, From: x, Next: x, Done: x%2 == 0, Known: true}
			for _, l := range [][]api.Ent{nil, {e}, {e, {PC: 9}, {PC: 10}, {PC: 10}, e}, slices.Repeat([]api.Ent{{PC: 9}}, 6)} {
				for _, i := range oddNumbers {
					for _, stack := range [][]int{nil, {x}, {x, x, x, x}, {x, x, x, x, x, x, x}} {
						if got := realOf(p, stack, l, i); !got.ok && len(got.stack) != 0 {
							t.Fatal(p, stack, l, i, got)
						}
					}
				}
			}
		}
	}
	many := make([]int, 100000)
	if got := Push(many, 1); !slices.Equal(got, []int{0, 1}) {
		t.Error(len(got))
	}
	if got := pop(many); !got.same(popped{0, many[1:], true}) {
		t.Error(got.pc, len(got.rest), got.ok)
	}
	if got := realOf(kinds(t), nil, slices.Repeat(path("cr"), 100000), math.MaxInt); !got.same(met{nil, true}) {
		t.Error(got)
	}
}

// overlap tells whether a and b share any memory, their spare room too.
func overlap(a, b []int) bool {
	if cap(a) == 0 || cap(b) == 0 {
		return false
	}
	from, to := uintptr(unsafe.Pointer(unsafe.SliceData(a))), uintptr(unsafe.Pointer(unsafe.SliceData(b)))
	size := unsafe.Sizeof(a[:1][0])
	return from < to+uintptr(cap(b))*size && to < from+uintptr(cap(a))*size
}

// DOC.md's rule 3: what is handed in is not changed, nor the spare room behind its lists, and what is answered is new memory.
func TestMemory(t *testing.T) {
	p, kept := kinds(t), kinds(t)
	ents := path("cxrxcr")
	was := slices.Clone(ents)
	for n := range 5 {
		for room := n; room <= 8; room++ {
			whole := []int{1, 2, 3, 4, 5, 6, 7, 8}
			l := whole[:n:room]
			_, rest, _ := Pop(l)
			answers := [][]int{Push(l, 9), rest}
			for i := range len(ents) + 1 {
				stack, _ := Real(p, l, ents, i)
				answers = append(answers, stack)
			}
			for k, a := range answers {
				if overlap(a, whole) {
					t.Error("shared", k, l, a)
				}
				for i := range a[:cap(a)] {
					a[:cap(a)][i] = 77
				}
			}
			if !slices.Equal(whole, []int{1, 2, 3, 4, 5, 6, 7, 8}) {
				t.Error("changed", n, room, whole)
			}
		}
	}
	if !slices.Equal(ents, was) || !reflect.DeepEqual(p, kept) {
		t.Error("changed", ents, p)
	}
}

// DOC.md's rule 3: nothing is kept, so that what was handed in may be changed and asked again, and the spare room of what is handed in is not read.
func TestNotKept(t *testing.T) {
	p := kinds(t)
	whole, ents := []int{1, 2, 3, 4, 5}, path("xccc")
	if got := realOf(p, whole[:2], ents[:2], 9); !got.same(met{[]int{1, 2, calling + 1}, true}) {
		t.Error(got)
	}
	whole[1], ents[0].PC = 6, returning
	if got := realOf(p, whole[:2], ents[:2], 9); !got.same(met{[]int{1, calling + 1}, true}) {
		t.Error(got)
	}
	p.Ins[calling], p.Ins[0] = p.Ins[returning], p.Ins[calling]
	if got := realOf(p, whole[:3], []api.Ent{{PC: 0}, {PC: calling}, {PC: calling}}, 3); !got.same(met{[]int{1, 6}, true}) {
		t.Error(got)
	}
}
