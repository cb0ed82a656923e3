package fetc

import (
	"bytes"
	"fmt"
	"math"
	"math/rand"
	"reflect"
	"slices"
	"strings"
	"testing"
	"unsafe"

	"augury/api"
	"augury/arch"
	"augury/conf"
	"augury/prog"
	"augury/retb"
	"augury/robq"
	"augury/seqm"
)

func read(t *testing.T, lines ...string) api.Prog {
	t.Helper()
	p, line, at, ok := prog.Parse(strings.Join(lines, "\n"))
	if !ok {
		t.Fatalf("Parse(%q) is false at %d, %d", lines, line, at)
	}
	return p
}

// Where kinds has what it has; beyond its end is no instruction.
const (
	adding = iota
	loading
	storing
	moving
	branching
	jumping
	going
	calling
	returning
	fencing
	halting
	beyond
)

// kinds is a program of each kind of instruction, with the greatest window.
func kinds(t *testing.T) api.Prog {
	return read(t, "width 4", "window 6", "public a 4",
		"add r1, r0, 1", "two:", "load r1, [r0 + 0]", "three:", "store [r0 + 0], r1", "cmov r1, r0, 2",
		"br lt r1, 2, three", "jmp two", "ind r1", "call two", "ret", "fence", "halt")
}

var oddNumbers = []int{math.MinInt, math.MinInt + 1, -(1 << 32), -17, -2, -1, 0, 1, 2, 3, 4, 5, 6, 15, 16, 17, 1 << 31, 1 << 32, math.MaxInt - 1, math.MaxInt}

// at is a machine at pc, with numbers in it that can be told from each other, and nothing under way.
func at(pc int) api.Conf {
	return api.Conf{State: api.State{Regs: [4]int{3, 9, 1, 15}, Mem: []int{4, 6, 8, 10}, PC: pc}}
}

// path is the Ents of kinds that letters tell: c a call, r a return, x another.
func path(letters string) []api.Ent {
	var l []api.Ent
	for i, c := range letters {
		pc := map[rune]int{'c': calling, 'r': returning, 'x': adding}[c]
		l = append(l, api.Ent{PC: pc, Val: i, Addr: i + 1, From: i - 1, Next: i + 2, Done: i%2 == 0, Known: i%3 == 0, Fault: i%4 == 0})
	}
	return l
}

// equal has nil and an empty list as the same.
func equal(a, b api.Conf) bool {
	return a.State.Regs == b.State.Regs && slices.Equal(a.State.Mem, b.State.Mem) && slices.Equal(a.State.Stack, b.State.Stack) && a.State.PC == b.State.PC &&
		slices.Equal(a.Buf, b.Buf) && slices.Equal(a.Rsb, b.Rsb) && a.End == b.End
}

// nothing is the zero Conf.
func nothing(c api.Conf) bool {
	return reflect.DeepEqual(c, api.Conf{})
}

func clone(c api.Conf) api.Conf {
	c.State.Mem, c.State.Stack, c.Buf, c.Rsb = slices.Clone(c.State.Mem), slices.Clone(c.State.Stack), slices.Clone(c.Buf), slices.Clone(c.Rsb)
	return c
}

// with is what c has to be behind a fetch of e, with rsb as its return buffer: all else is as it was.
func with(c api.Conf, e api.Ent, rsb []int) api.Conf {
	c = clone(c)
	c.Buf, c.Rsb, c.State.PC = append(c.Buf, e), rsb, e.Next
	return c
}

// refused tells what is wrong, if c can be fetched by guess, or anything is told beside the false.
func refused(t *testing.T, p api.Prog, c api.Conf, guess int) {
	t.Helper()
	if got, ok := Fetch(p, c, guess); ok || !nothing(got) {
		t.Errorf("Fetch(%v, %d) = %v, %v", c, guess, got, ok)
	}
}

// form is how kinds has an instruction begun, with nothing under way and an empty return buffer.
type form struct {
	pc   int
	next []int
	done bool
	rsb  []int
}

func forms() []form {
	places := []int{0, 1, 2, 3, 4, 5, 6, 7, 8, 9, 10, 11}
	return []form{
		{adding, []int{1}, false, nil},
		{loading, []int{2}, false, nil},
		{storing, []int{3}, false, nil},
		{moving, []int{4}, false, nil},
		{branching, []int{5, 2}, false, nil},
		{jumping, []int{1}, true, nil},
		{going, places, false, nil},
		{calling, []int{1}, true, []int{8}},
		{returning, places, false, nil},
		{fencing, []int{10}, false, nil},
		{halting, []int{-1}, true, nil},
		{beyond, []int{-1}, true, nil},
	}
}

// 14.1: each kind of instruction has its guesses, and its Ent has the next PC, which is fetched then; all else of the Ent is zero, but From.
func TestKinds(t *testing.T) {
	p := kinds(t)
	for _, x := range forms() {
		c := at(x.pc)
		if got := Guesses(p, c); got != len(x.next) {
			t.Errorf("Guesses at %d = %d", x.pc, got)
		}
		for guess, next := range x.next {
			want := with(c, api.Ent{PC: x.pc, From: -1, Next: next, Done: x.done}, x.rsb)
			if got, ok := Fetch(p, c, guess); !ok || !equal(got, want) {
				t.Errorf("Fetch(%v, %d) = %v, %v, want %v", c, guess, got, ok, want)
			}
		}
	}
}

// 14.1: a guess is 0 to Guesses less 1; of others nothing is begun.
func TestNoSuchGuess(t *testing.T) {
	p := kinds(t)
	for _, x := range forms() {
		refused(t, p, at(x.pc), len(x.next))
		for _, guess := range oddNumbers {
			if guess < 0 || guess >= len(x.next) {
				refused(t, p, at(x.pc), guess)
			}
		}
	}
}

// 14.1: at its end a machine has nothing to fetch, whatever is at PC.
func TestEnded(t *testing.T) {
	p := kinds(t)
	for _, end := range append([]int{api.EHalt, api.EFault}, oddNumbers...) {
		for pc := range beyond + 1 {
			c := at(pc)
			c.End = end
			if got := Guesses(p, c); (got == 0) != (end != 0) {
				t.Errorf("Guesses(%v) = %d", c, got)
			}
			if end != 0 {
				refused(t, p, c, 0)
			}
		}
	}
}

// 14.1: a PC of -1 is nothing to fetch; any other at which no instruction is is a fault to fetch.
func TestNowhere(t *testing.T) {
	p := kinds(t)
	if c := at(-1); Guesses(p, c) != 0 {
		t.Error(Guesses(p, c))
	}
	refused(t, p, at(-1), 0)
	for _, pc := range []int{beyond, beyond + 1, 31, 32, math.MaxInt, -2, math.MinInt} {
		want := with(at(pc), api.Ent{PC: pc, From: -1, Next: -1, Done: true}, nil)
		if got, ok := Fetch(p, at(pc), 0); !ok || Guesses(p, at(pc)) != 1 || !equal(got, want) {
			t.Errorf("Fetch at %d = %v, %v", pc, got, ok)
		}
	}
}

// 14.1: there is room for Window Ents; where there are as many, or more, nothing is fetched.
func TestWindow(t *testing.T) {
	p := kinds(t)
	for window := -2; window <= 6; window++ {
		p.Window = window
		for n := range 9 {
			for pc := range beyond + 1 {
				c := at(pc)
				c.Buf = path(strings.Repeat("x", n))
				got, ok := Fetch(p, c, 0)
				if room := n < window; (Guesses(p, c) > 0) != room || ok != room || room && len(got.Buf) != n+1 {
					t.Errorf("Guesses(%v) = %d, in a window of %d", c, Guesses(p, c), window)
				}
				if !ok && !nothing(got) {
					t.Errorf("Fetch(%v) = %v, in a window of %d", c, got, window)
				}
			}
		}
	}
}

// 14.1: a program without a window that is told has one of 1.
func TestWindowOfOne(t *testing.T) {
	p := read(t, "width 4", "fence", "fence")
	c, ok := Fetch(p, at(0), 0)
	if !ok || Guesses(p, c) != 0 {
		t.Error(c, ok)
	}
	refused(t, p, c, 0)
}

// 14.1: an ind may be guessed to go to each instruction, and behind the last one; so may a ret, when the return buffer is empty.
func TestAnywhere(t *testing.T) {
	for _, n := range []int{1, 2, 3, 31, 32} {
		for _, line := range []string{"ind r0", "ret"} {
			p := read(t, append([]string{"width 16", line}, slices.Repeat([]string{"fence"}, n-1)...)...)
			if got := Guesses(p, at(0)); got != n+1 {
				t.Error(line, n, got)
			}
			for guess := range n + 1 {
				want := with(at(0), api.Ent{From: -1, Next: guess}, nil)
				if got, ok := Fetch(p, at(0), guess); !ok || !equal(got, want) {
					t.Error(line, n, guess, got, ok)
				}
			}
			refused(t, p, at(0), n+1)
		}
	}
}

// 14.1: a ret takes the last one of the return buffer, if that has any, and has no other guess then; what the Stack has does not count.
func TestReturn(t *testing.T) {
	p := kinds(t)
	for _, x := range []struct {
		rsb  []int
		next int
		rest []int
	}{
		{[]int{8}, 8, nil},
		{[]int{0}, 0, nil},
		{[]int{beyond}, beyond, nil},
		{[]int{3, 8}, 8, []int{3}},
		{[]int{8, 3}, 3, []int{8}},
		{[]int{5, 5}, 5, []int{5}},
		{[]int{1, 2, 3}, 3, []int{1, 2}},
	} {
		for depth := range 5 {
			c := at(returning)
			c.Rsb, c.State.Stack = x.rsb, []int{11, 10, 9, 7}[:depth]
			want := with(c, api.Ent{PC: returning, From: -1, Next: x.next}, x.rest)
			if got, ok := Fetch(p, c, 0); !ok || Guesses(p, c) != 1 || !equal(got, want) {
				t.Errorf("Fetch(%v) = %v, %v", c, got, ok)
			}
			refused(t, p, c, 1)
			refused(t, p, c, 8)
			refused(t, p, c, -1)
		}
	}
}

// 14.1: an empty return buffer is one that is nil, too, or has room.
func TestReturnEmpty(t *testing.T) {
	p := kinds(t)
	for _, rsb := range [][]int{nil, {}, make([]int, 0, 2), []int{4, 4}[:0]} {
		c := at(returning)
		c.Rsb, c.State.Stack = rsb, []int{6}
		if got := Guesses(p, c); got != beyond+1 {
			t.Error(rsb, got)
		}
		want := with(c, api.Ent{PC: returning, From: -1, Next: 9}, nil)
		if got, ok := Fetch(p, c, 9); !ok || !equal(got, want) {
			t.Error(got, ok)
		}
	}
}

// 14.1: a call puts PC and 1 on the return buffer, whose first ones go, and is Done; all other kinds leave the buffer as it is.
func TestBuffer(t *testing.T) {
	p := kinds(t)
	for _, x := range []struct{ rsb, want []int }{
		{nil, []int{8}},
		{[]int{3}, []int{3, 8}},
		{[]int{3, 5}, []int{5, 8}},
		{[]int{8, 8}, []int{8, 8}},
		{[]int{1, 2, 3}, []int{3, 8}},
	} {
		for pc := range beyond + 1 {
			c, want := at(pc), x.rsb
			c.Rsb = x.rsb
			switch pc {
			case calling:
				want = x.want
			case returning:
				continue
			}
			if got, ok := Fetch(p, c, 0); !ok || !slices.Equal(got.Rsb, want) {
				t.Errorf("Fetch(%v) = %v, %v, want %v", c, got, ok, want)
			}
		}
	}
}

// 14.1: a call is a Fault, if the Stack that it will meet has 4, or can't be told, whatever the return buffer has; it goes to its Target all the same.
func TestCallFault(t *testing.T) {
	p := kinds(t)
	for _, x := range []struct {
		depth   int
		letters string
		fault   bool
	}{
		{0, "", false},
		{3, "", false},
		{4, "", true},
		{3, "x", false},
		{4, "xxxxx", true},
		{2, "c", false},
		{3, "c", true},
		{0, "ccc", false},
		{0, "cccc", true},
		{0, "ccccc", true},
		{4, "r", false},
		{4, "rc", true},
		{4, "rrc", false},
		{4, "cr", true},
		{0, "r", true},
		{1, "rr", true},
		{1, "rrcx", true},
		{1, "r", false},
		{0, "crxcr", false},
		{3, "crcrx", false},
		{3, "crcrc", true},
	} {
		for _, rsb := range [][]int{nil, {3}, {5, 6}} {
			c := at(calling)
			c.State.Stack, c.Buf, c.Rsb = []int{11, 10, 9, 7}[:x.depth], path(x.letters), rsb
			want := with(c, api.Ent{PC: calling, From: -1, Next: loading, Done: true, Fault: x.fault}, retb.Push(rsb, calling+1))
			if got, ok := Fetch(p, c, 0); !ok || !equal(got, want) {
				t.Errorf("Fetch(%v) = %v, %v, want %v", c, got, ok, want)
			}
		}
	}
}

// 14.1: only a call is ever a Fault when it is fetched, a ret that can't be neither.
func TestNoOtherFault(t *testing.T) {
	p := kinds(t)
	for pc := range beyond + 1 {
		for _, letters := range []string{"", "r", "rr", "ccccc"} {
			for depth := range 5 {
				c := at(pc)
				c.Buf, c.State.Stack = path(letters), []int{11, 10, 9, 7}[:depth]
				for guess := range Guesses(p, c) {
					got, ok := Fetch(p, c, guess)
					if !ok || pc != calling && got.Buf[len(letters)].Fault {
						t.Error(c, got, ok)
					}
				}
			}
		}
	}
}

// 14.1: a call or a jump of the last instruction, to itself, or behind the last one, is one as any.
func TestLast(t *testing.T) {
	for line, want := range map[string]api.Ent{
		"call here":         {PC: 1, From: -1, Next: 1, Done: true},
		"call out":          {PC: 1, From: -1, Next: 2, Done: true},
		"jmp here":          {PC: 1, From: -1, Next: 1, Done: true},
		"jmp out":           {PC: 1, From: -1, Next: 2, Done: true},
		"br eq r0, 0, here": {PC: 1, From: -1, Next: 2},
		"fence":             {PC: 1, From: -1, Next: 2},
	} {
		p := read(t, "width 4", "halt", "here:", line, "out:")
		var rsb []int
		if strings.HasPrefix(line, "call") {
			rsb = []int{2}
		}
		if got, ok := Fetch(p, at(1), 0); !ok || !equal(got, with(at(1), want, rsb)) {
			t.Errorf("%s: %v, %v", line, got, ok)
		}
	}
	p := read(t, "width 4", "halt", "here:", "br eq r0, 0, here")
	if got, ok := Fetch(p, at(1), 1); !ok || !equal(got, with(at(1), api.Ent{PC: 1, From: -1, Next: 1}, nil)) {
		t.Error(got, ok)
	}
}

// modelFault counts how deep the Stack is.
func modelFault(depth int, letters string) bool {
	for _, c := range letters + "c" {
		if c == 'c' {
			depth++
		}
		if c == 'r' {
			depth--
		}
		if depth < 0 || depth > 4 {
			return true
		}
	}
	return false
}

// modelFetch is what c, whose Ents are path's of letters, comes to by each guess.
func modelFetch(x form, c api.Conf, letters string) []api.Conf {
	var l []api.Conf
	for _, next := range x.next {
		e, rsb := api.Ent{PC: x.pc, From: -1, Next: next, Done: x.done}, c.Rsb
		if x.pc == calling {
			e.Fault = modelFault(len(c.State.Stack), letters)
			rsb = append(slices.Clone(rsb), 8)
			for len(rsb) > 2 {
				rsb = rsb[1:]
			}
		}
		if last := len(rsb) - 1; x.pc == returning && last >= 0 {
			e.Next = rsb[last]
			return []api.Conf{with(c, e, rsb[:last])}
		}
		l = append(l, with(c, e, rsb))
	}
	return l
}

// paths are all of up to n letters.
func paths(n int) []string {
	l := []string{""}
	for at := 0; len(l[at]) < n; at++ {
		l = append(l, l[at]+"c", l[at]+"r", l[at]+"x")
	}
	return l
}

// 14.1: of all paths of up to five Ents, all Stacks and return buffers, and each PC, Guesses and Fetch answer as the model does.
func TestAll(t *testing.T) {
	p := kinds(t)
	for _, letters := range paths(5) {
		for depth := range 5 {
			for _, rsb := range [][]int{nil, {4}, {4, 10}} {
				for _, x := range forms() {
					c := at(x.pc)
					c.State.Stack, c.Buf, c.Rsb = []int{11, 10, 9, 7}[:depth], path(letters), rsb
					want := modelFetch(x, c, letters)
					if got := Guesses(p, c); got != len(want) {
						t.Fatalf("Guesses(%v) = %d", c, got)
					}
					for guess, w := range want {
						if got, ok := Fetch(p, c, guess); !ok || !equal(got, w) {
							t.Fatalf("Fetch(%v, %d) = %v, %v, want %v", c, guess, got, ok, w)
						}
					}
				}
			}
		}
	}
}

// 14.1: what is fetched can be fetched on, as far as the window goes; behind a halt no further.
func TestRow(t *testing.T) {
	p := read(t, "width 4", "window 6", "call f", "jmp out", "f:", "call g", "ret", "g:", "ret", "out:", "halt")
	c := conf.Begin(api.State{})
	for range 6 {
		next, ok := Fetch(p, c, 0)
		if !ok {
			t.Fatal(c)
		}
		c = next
	}
	want := []api.Ent{
		{PC: 0, From: -1, Next: 2, Done: true}, {PC: 2, From: -1, Next: 4, Done: true}, {PC: 4, From: -1, Next: 3},
		{PC: 3, From: -1, Next: 1}, {PC: 1, From: -1, Next: 5, Done: true}, {PC: 5, From: -1, Next: -1, Done: true},
	}
	if !equal(c, api.Conf{State: api.State{PC: -1}, Buf: want}) {
		t.Error(c)
	}
	for n := range 7 {
		c.Buf = want[:n]
		if Guesses(p, c) != 0 {
			t.Error(n)
		}
		refused(t, p, c, 0)
	}
}

// someProg is a program made at random, of all kinds of instructions.
func someProg(t *testing.T, r *rand.Rand) api.Prog {
	n := 3 + r.Intn(8)
	lines := []string{"width 4", fmt.Sprintf("window %d", 1+r.Intn(6)), "public r0", "secret r1", "public a 12"}
	label := func() int { return r.Intn(n + 1) }
	for i := range n {
		lines = append(lines, fmt.Sprintf("l%d:", i))
		lines = append(lines, []string{
			fmt.Sprintf("call l%d", label()), fmt.Sprintf("call l%d", label()), "ret", "ret", "ret",
			fmt.Sprintf("jmp l%d", label()), fmt.Sprintf("ind %d", r.Intn(n+3)), fmt.Sprintf("ind r%d", r.Intn(4)),
			fmt.Sprintf("br lt r%d, %d, l%d", r.Intn(4), r.Intn(16), label()), fmt.Sprintf("br eq r%d, r%d, l%d", r.Intn(4), r.Intn(4), label()),
			fmt.Sprintf("add r%d, r%d, %d", r.Intn(4), r.Intn(4), r.Intn(16)), fmt.Sprintf("mov r%d, %d", r.Intn(4), r.Intn(16)),
			fmt.Sprintf("load r%d, [r%d + 1]", r.Intn(4), r.Intn(4)), fmt.Sprintf("store [r%d + 0], r%d", r.Intn(4), r.Intn(4)),
			fmt.Sprintf("cmov r%d, r%d, 5", r.Intn(4), r.Intn(4)), "fence", "halt",
		}[r.Intn(17)])
	}
	return read(t, append(lines, fmt.Sprintf("l%d:", n))...)
}

func someState(r *rand.Rand, p api.Prog) api.State {
	s := api.State{Mem: make([]int, arch.Cells(p)), PC: r.Intn(len(p.Ins) + 1)}
	for i := range s.Regs {
		s.Regs[i] = r.Intn(16)
	}
	for i := range s.Mem {
		s.Mem[i] = r.Intn(16)
	}
	for range r.Intn(5) {
		s.Stack = append(s.Stack, r.Intn(len(p.Ins)+1))
	}
	return s
}

// machine fetches by Fetch, and commits by doing one by one; s is what is committed, whose PC is the one to commit next.
type machine struct {
	p     api.Prog
	c     api.Conf
	s     api.State
	wrong int
	calls int
}

// fetch fetches by any guess, and tells what is wrong with what that leaves.
func (m *machine) fetch(r *rand.Rand) string {
	n := Guesses(m.p, m.c)
	if n == 0 {
		if _, ok := Fetch(m.p, m.c, 0); ok {
			return "fetches what can't be"
		}
		return ""
	}
	was := clone(m.c)
	c, ok := Fetch(m.p, m.c, r.Intn(n))
	if !ok || len(c.Buf) != len(was.Buf)+1 || !slices.Equal(c.Buf[:len(was.Buf)], was.Buf) || c.End != 0 {
		return "fetches more, or less, than one"
	}
	m.c = c
	c.State.PC = was.State.PC
	if !bytes.Equal(arch.Code(c.State), arch.Code(was.State)) {
		return "commits when it fetches"
	}
	return ""
}

// commit commits the oldest, drops what was guessed wrongly, and tells what is wrong with what was fetched, and whether it goes on.
func (m *machine) commit() (string, bool) {
	e, rest, ok := robq.Pop(m.c.Buf)
	if !ok {
		return "", true
	}
	want, _, end := seqm.Step(m.p, m.s)
	if e.PC != m.s.PC {
		return "what is not next was fetched", false
	}
	if what := begunWrong(m.p, e, want, end); what != "" || end != 0 {
		return what, false
	}
	if seqm.At(m.p, e.PC).Kind == api.ICall {
		m.calls++
	}
	pc := m.c.State.PC
	if e.Next != want.PC {
		m.wrong++
		rest, pc = nil, want.PC
	}
	m.s, m.c.State, m.c.Buf = want, want, rest
	m.c.State.PC = pc
	return "", true
}

// begunWrong tells what is wrong with an Ent of which one by one comes to want and end.
func begunWrong(p api.Prog, e api.Ent, want api.State, end int) string {
	guessed := false
	switch seqm.At(p, e.PC).Kind {
	case api.IBr, api.IInd, api.IRet:
		guessed = true
	}
	switch {
	case e.Val != 0 || e.Addr != 0 || e.From != -1 || e.Known:
		return "something is done already"
	case e.Done && end == 0 && (e.Next != want.PC || e.Fault):
		return "what is done when it is fetched is not done rightly"
	case e.Done && end != 0 && !e.Fault && e.Next != -1:
		return "an end is not seen"
	case !e.Done && e.Fault:
		return "a fault is seen too early"
	case !e.Done && !guessed && end == 0 && e.Next != want.PC:
		return "what needs no guess goes astray"
	}
	return ""
}

// rightWay tells whether one of the guesses at what is committed goes where one by one does.
func (m *machine) rightWay() bool {
	want, _, end := seqm.Step(m.p, m.s)
	if end != 0 {
		return true
	}
	c := conf.Begin(m.s)
	for guess := range Guesses(m.p, c) {
		if got, ok := Fetch(m.p, c, guess); ok && got.State.PC == want.PC {
			return true
		}
	}
	return false
}

// 14.2: whatever is guessed, what is committed is what the program does one by one: a fetch commits nothing, turns nothing that is under way, and does only what hangs on no guess of its own; and one of the guesses is right.
func TestCommitted(t *testing.T) {
	r := rand.New(rand.NewSource(14))
	wrong, calls, steps := 0, 0, 0
	for range 4000 {
		p := someProg(t, r)
		s := someState(r, p)
		m := &machine{p: p, c: conf.Begin(s), s: s}
		goes, what := true, ""
		for acts := 0; goes && acts < 150; acts++ {
			if r.Intn(5) < 3 {
				what = m.fetch(r)
			} else {
				what, goes = m.commit()
				steps++
			}
			if what != "" {
				t.Fatalf("%v: %v, %v: %s", m.p, m.s, m.c, what)
			}
			if !m.rightWay() {
				t.Fatalf("%v: %v: no guess is right", m.p, m.s)
			}
		}
		wrong, calls = wrong+m.wrong, calls+m.calls
	}
	if wrong < 1000 || calls < 1000 || steps < 20000 {
		t.Error("too little was tried", wrong, calls, steps)
	}
}

// 14.2: two machines that hold other numbers, but the same under way, are fetched alike: no guess hangs on what is held.
func TestHeldDoesNotCount(t *testing.T) {
	p := kinds(t)
	for _, letters := range paths(3) {
		for pc := range beyond + 1 {
			a, b := at(pc), at(pc)
			a.Buf, b.Buf = path(letters), path(letters)
			b.State.Regs, b.State.Mem = [4]int{15, 0, 2, 7}, []int{15, 14, 13, 12}
			if Guesses(p, a) != Guesses(p, b) {
				t.Fatal(a, b)
			}
			for guess := range Guesses(p, a) {
				x, xOk := Fetch(p, a, guess)
				y, yOk := Fetch(p, b, guess)
				y.State.Regs, y.State.Mem = x.State.Regs, x.State.Mem
				if !xOk || !yOk || !equal(x, y) {
					t.Fatal(x, y)
				}
			}
		}
	}
}

// oddProgs are programs that can't be.
func oddProgs() []api.Prog {
	l := []api.Prog{{}, {W: 4}, {Window: 9}, {W: math.MinInt, Window: math.MaxInt, Mems: []api.Mem{{N: math.MaxInt}}}}
	for _, w := range []int{-1, 0, 4, 17} {
		for _, n := range oddNumbers {
			v := api.Val{Reg: true, N: n}
			p := api.Prog{W: w, Regs: [4]int{n, n, n, n}, Window: max(n, 6), Fuel: n, Mems: []api.Mem{{N: n}, {N: n}}}
			for kind := -1; kind <= 13; kind++ {
				p.Ins = append(p.Ins, api.Ins{Kind: kind, Op: n, D: n, A: v, B: v, Target: n})
			}
			l = append(l, p, api.Prog{W: w, Window: n, Ins: []api.Ins{{Kind: n, Target: n}}})
		}
	}
	return l
}

// 14.3: no call panics, and each ends, whatever it is given; Fetch can do what Guesses counts, and nothing else, beside which it tells nothing.
func TestNoPanic(t *testing.T) {
	for _, p := range oddProgs() {
		for _, pc := range append([]int{7, 8, 9, 10, 11, 12, 13, 14}, oddNumbers...) {
			for k, n := range oddNumbers {
				l := slices.Repeat([]int{n}, k%7)
				e := api.Ent{PC: n, Val: n, Addr: n, From: n, Next: n, Done: true}
				c := api.Conf{State: api.State{Regs: [4]int{n, n, n, n}, Mem: l, Stack: l, PC: pc}, Buf: slices.Repeat([]api.Ent{e}, k%6), Rsb: l[:k%7/2]}
				if k%5 == 4 {
					c.End = n
				}
				guesses := Guesses(p, c)
				for _, guess := range append([]int{guesses, guesses - 1}, oddNumbers...) {
					got, ok := Fetch(p, c, guess)
					if ok != (0 <= guess && guess < guesses) || !ok && !nothing(got) {
						t.Fatal(p, c, guess, got, ok)
					}
				}
			}
		}
	}
}

// 14.3: much of all ends, too.
func TestMuch(t *testing.T) {
	p := kinds(t)
	p.Window = math.MaxInt
	c := at(calling)
	c.Buf, c.Rsb = slices.Repeat(path("cr"), 50000), make([]int, 100000)
	got, ok := Fetch(p, c, 0)
	if !ok || len(got.Buf) != 100001 || got.Buf[100000].Fault || !slices.Equal(got.Rsb, []int{0, 8}) {
		t.Error(len(got.Buf), got.Rsb, ok)
	}
}

// overlap tells whether a and b share any memory, their spare room too.
func overlap[A, B any](a []A, b []B) bool {
	if cap(a) == 0 || cap(b) == 0 {
		return false
	}
	from, to := uintptr(unsafe.Pointer(unsafe.SliceData(a))), uintptr(unsafe.Pointer(unsafe.SliceData(b)))
	return from < to+uintptr(cap(b))*unsafe.Sizeof(b[:1][0]) && to < from+uintptr(cap(a))*unsafe.Sizeof(a[:1][0])
}

// spoil writes over all that a Conf holds, spare room too.
func spoil(c api.Conf) {
	for _, l := range [][]int{c.State.Mem, c.State.Stack, c.Rsb} {
		for i := range l[:cap(l)] {
			l[:cap(l)][i] = 77
		}
	}
	for i := range c.Buf[:cap(c.Buf)] {
		c.Buf[:cap(c.Buf)][i] = api.Ent{PC: 77}
	}
}

// roomy is a Conf whose lists have room behind them, and the whole of these.
func roomy(pc, n int) (api.Conf, api.Conf) {
	whole := api.Conf{State: api.State{Mem: []int{1, 2, 3, 4}, Stack: []int{5, 6, 7, 8}, PC: pc}, Buf: path("xcrx"), Rsb: []int{9, 10, 11, 12}}
	c := whole
	c.State.Mem, c.State.Stack, c.Buf, c.Rsb = c.State.Mem[:n], c.State.Stack[:n], c.Buf[:n], c.Rsb[:n]
	return c, whole
}

// DOC.md's rule 3: what is handed in is not changed, nor the spare room behind its lists; what is answered is new memory, and no two of its lists share any.
func TestMemory(t *testing.T) {
	p, kept := kinds(t), kinds(t)
	for pc := range beyond + 1 {
		for n := range 4 {
			c, whole := roomy(pc, n)
			_, was := roomy(pc, n)
			got, ok := Fetch(p, c, 0)
			again, _ := Fetch(p, c, 0)
			if !ok {
				t.Fatal(c)
			}
			ints := [][]int{got.State.Mem, got.State.Stack, got.Rsb, again.State.Mem, again.State.Stack, again.Rsb, whole.State.Mem, whole.State.Stack, whole.Rsb}
			for i, x := range ints {
				for k, y := range ints {
					if i != k && overlap(x, y) {
						t.Error("shared", pc, n, i, k)
					}
				}
			}
			if overlap(got.Buf, whole.Buf) || overlap(got.Buf, again.Buf) {
				t.Error("shared", pc, n)
			}
			spoil(got)
			if !equal(whole, was) || !reflect.DeepEqual(p, kept) {
				t.Error("changed", pc, n, whole)
			}
			if third, _ := Fetch(p, c, 0); !equal(third, again) {
				t.Error("kept", pc, n)
			}
		}
	}
}

// DOC.md's rule 3: nothing is kept, so that what was handed in may be changed and asked again.
func TestNotKept(t *testing.T) {
	p, c := kinds(t), at(returning)
	c.Rsb, c.Buf, c.State.Stack = []int{3, 4}, path("xc"), []int{5}
	first, _ := Fetch(p, c, 0)
	want := clone(first)
	c.Rsb[1], c.Buf[0], c.State.Stack[0], c.State.Mem[2] = 6, api.Ent{PC: fencing}, 2, 0
	if !equal(first, want) {
		t.Error("what was answered changes", first)
	}
	if got, ok := Fetch(p, c, 0); !ok || !equal(got, with(c, api.Ent{PC: returning, From: -1, Next: 6}, []int{3})) {
		t.Error(got, ok)
	}
	p.Ins[returning] = p.Ins[halting]
	if got, ok := Fetch(p, c, 0); !ok || !equal(got, with(c, api.Ent{PC: returning, From: -1, Next: -1, Done: true}, []int{3, 6})) {
		t.Error(got, ok)
	}
}
