package reso

import (
	"fmt"
	"math"
	"math/rand"
	"reflect"
	"slices"
	"strings"
	"testing"

	"augury/api"
	"augury/arch"
	"augury/prog"
	"augury/robq"
	"augury/seqm"
)

func read(t *testing.T, lines ...string) api.Prog {
	t.Helper()
	p, line, at, ok := prog.Parse(strings.Join(lines, "\n"))
	if !ok {
		t.Fatalf("Parse(%q) is false at %d, %d", lines, line, at)
	}
	return p
}

// kinds is a program of each kind of instruction; all that can have a D of r1 do.
func kinds(t *testing.T) api.Prog {
	return read(t, "width 4", "public a 4",
		"add r1, r0, 1", "load r1, [r0 + 0]", "cmov r1, r0, 2", "mov r1, 3",
		"store [r0 + 0], r1", "br lt r1, 2, out", "jmp out", "ind r1", "call out", "ret", "fence", "halt", "out:")
}

// putting is how many of kinds put something in r1; these stand first.
const putting = 4

const fence = 10

var oddNumbers = []int{math.MinInt, math.MinInt + 1, -(1 << 32), -17, -2, -1, 0, 1, 2, 3, 4, 5, 6, 15, 16, 17, 1 << 31, 1 << 32, math.MaxInt - 1, math.MaxInt}

// 10.1: Dest is D of IAlu, ILoad and ICmov, as it stands, whatever else they hold.
func TestDest(t *testing.T) {
	v := api.Val{Reg: true, N: 2}
	for _, kind := range []int{api.IAlu, api.ILoad, api.ICmov} {
		for _, d := range oddNumbers {
			for _, i := range []api.Ins{{Kind: kind, D: d}, {Kind: kind, D: d, Op: api.OShl, A: v, B: v, Name: "x", Target: 7}} {
				if got, ok := Dest(i); got != d || !ok {
					t.Errorf("Dest(%v) = %d, %v", i, got, ok)
				}
			}
		}
	}
	p := kinds(t)
	for pc, i := range p.Ins {
		want := pc < putting
		if got, ok := Dest(i); ok != want || want && got != 1 {
			t.Errorf("Dest(%v) = %d, %v", i, got, ok)
		}
	}
}

// 10.1: Dest is false of all other kinds, and of what is none, and 0 beside it, though D is told.
func TestDestNone(t *testing.T) {
	for _, kind := range []int{api.IStore, api.IBr, api.IJmp, api.IInd, api.ICall, api.IRet, api.IFence, api.IHalt, api.IFault, 0, 13, -1, 257, math.MinInt, math.MaxInt} {
		for d := range 4 {
			if got, ok := Dest(api.Ins{Kind: kind, D: d}); got != 0 || ok {
				t.Errorf("kind %d, D %d: %d, %v", kind, d, got, ok)
			}
		}
	}
}

// 10.1: with nothing ahead Reg is regs' own.
func TestRegNone(t *testing.T) {
	p := kinds(t)
	regs := [4]int{5, 0, 15, 9}
	whole := []api.Ent{{PC: 0, Val: 1, Done: true}, {PC: 1, Val: 2}}
	for _, l := range [][]api.Ent{nil, {}, whole[:0], whole} {
		for r, want := range regs {
			for _, i := range []int{0, -1, -5, math.MinInt} {
				if got, ok := Reg(p, regs, l, i, r); got != want || !ok {
					t.Errorf("Reg(%v, %d, %d) = %d, %v", l, i, r, got, ok)
				}
			}
		}
	}
	if got, ok := Reg(p, regs, nil, 3, 2); got != 15 || !ok {
		t.Error(got, ok)
	}
}

// 10.1: each Ent whose Dest is r tells its Val if Done, else nothing is told; one of another kind tells nothing of r, nor does any of another register.
func TestRegKinds(t *testing.T) {
	p := kinds(t)
	regs := [4]int{5, 6, 7, 8}
	for pc := -2; pc < len(p.Ins)+3; pc++ {
		for _, done := range []bool{false, true} {
			// Known, Fault and the numbers beside Val say nothing of it.
			for _, e := range []api.Ent{{}, {Addr: 3, From: 2, Next: 1, Known: true, Fault: true}} {
				e.PC, e.Val, e.Done = pc, 12, done
				for r, own := range regs {
					want, told := own, true
					if r == 1 && 0 <= pc && pc < putting {
						want, told = 12, done
					}
					if !told {
						want = 0
					}
					if got, ok := Reg(p, regs, []api.Ent{e}, 1, r); got != want || ok != told {
						t.Errorf("Reg(%v, %d) = %d, %v, want %d, %v", e, r, got, ok, want, told)
					}
				}
			}
		}
	}
}

// 10.1: it is the last one ahead that tells, done or not, none at the i-th or behind it; i is held to 0 to l's length.
func TestRegLast(t *testing.T) {
	p := read(t, "width 4", "add r0, r1, 1", "mov r1, r0", "mov r0, 3", "fence")
	regs := [4]int{5, 6, 7, 8}
	l := []api.Ent{
		{PC: 0, Val: 10, Done: true},
		{PC: 0, Val: 11},
		{PC: 3, Val: 15, Done: true},
		{PC: 2, Val: 12, Done: true},
		{PC: 1, Val: 13},
		{PC: 1, Val: 0, Done: true},
		{PC: 2, Val: 14},
	}
	const untold = -1
	r0 := []int{5, 10, untold, untold, 12, 12, 12, untold}
	r1 := []int{6, 6, 6, 6, 6, untold, 0, 0}
	for _, i := range append([]int{7, 8, 9}, oddNumbers...) {
		at := min(max(i, 0), len(l))
		for r, want := range []int{r0[at], r1[at], 7, 8} {
			got, ok := Reg(p, regs, l, i, r)
			if ok != (want != untold) || got != max(want, 0) {
				t.Errorf("Reg(%d, %d) = %d, %v, want %d", i, r, got, ok, want)
			}
		}
	}
}

// 10.1: a register that is none is false, though an Ent of a program that can't be puts something in it.
func TestRegOutside(t *testing.T) {
	p := kinds(t)
	for _, r := range oddNumbers {
		if 0 <= r && r < 4 {
			continue
		}
		odd := api.Prog{W: 4, Ins: []api.Ins{{Kind: api.IAlu, Op: api.OAdd, D: r}}}
		l := []api.Ent{{Val: 3, Done: true}, {Val: 4, Done: true}}
		for _, q := range []api.Prog{p, odd} {
			for i := range 3 {
				if got, ok := Reg(q, [4]int{1, 2, 3, 4}, l, i, r); got != 0 || ok {
					t.Errorf("Reg(%d, %d) = %d, %v", i, r, got, ok)
				}
				if got, ok := Val(q, [4]int{1, 2, 3, 4}, l, i, api.Val{Reg: true, N: r}); got != 0 || ok {
					t.Errorf("Val(%d, r%d) = %d, %v", i, r, got, ok)
				}
			}
		}
	}
}

// 10.1: Val of a number is it, masked, in each width, whatever is under way; 0 of a width that is none.
func TestValNumber(t *testing.T) {
	l := []api.Ent{{PC: 0, Val: 9}, {PC: 0, Val: 8, Done: true}}
	for w := 1; w <= 16; w++ {
		p := read(t, fmt.Sprintf("width %d", w), "mov r0, 1", "fence")
		size := 1 << w
		for _, n := range append([]int{7, 8, 13, size - 1, size, size + 1, 3*size + 1, -size, -size - 1, 99999}, oddNumbers...) {
			want := (n%size + size) % size
			for i := -1; i < 4; i++ {
				if got, ok := Val(p, [4]int{1, 1, 1, 1}, l, i, api.Val{N: n}); got != want || !ok {
					t.Errorf("width %d: Val(%d) = %d, %v, want %d", w, n, got, ok, want)
				}
			}
		}
	}
	for _, w := range []int{0, -1, 17, math.MinInt} {
		if got, ok := Val(api.Prog{W: w}, [4]int{}, nil, 0, api.Val{N: 3}); got != 0 || !ok {
			t.Error(w, got, ok)
		}
	}
}

// 10.1: Val of a register is Reg of it.
func TestValRegister(t *testing.T) {
	p := read(t, "width 2", "mov r0, 1", "mov r2, r3", "fence")
	regs := [4]int{3, 2, 1, 0}
	l := []api.Ent{{PC: 0, Val: 2, Done: true}, {PC: 1, Val: 3}, {PC: 2}, {PC: 0, Val: 1}}
	for _, x := range []struct {
		i, r, want int
		ok         bool
	}{{0, 0, 3, true}, {1, 0, 2, true}, {3, 0, 2, true}, {4, 0, 0, false}, {9, 0, 0, false}, {1, 2, 1, true}, {2, 2, 0, false}, {4, 1, 2, true}, {4, 3, 0, true}, {-4, 2, 1, true}} {
		if got, ok := Val(p, regs, l, x.i, api.Val{Reg: true, N: x.r}); got != x.want || ok != x.ok {
			t.Errorf("Val(%d, r%d) = %d, %v", x.i, x.r, got, ok)
		}
	}
}

// 10.1: Blocked just if a fence stands ahead of the i-th, done or not; one at the i-th or behind it blocks nothing.
func TestBlocked(t *testing.T) {
	p := kinds(t)
	for pc := -2; pc < len(p.Ins)+3; pc++ {
		for _, done := range []bool{false, true} {
			l := []api.Ent{{PC: 0}, {PC: pc, Val: 3, Done: done, Known: done}, {PC: 4}}
			for _, i := range oddNumbers {
				want := pc == fence && i >= 2
				if got := Blocked(p, l, i); got != want {
					t.Errorf("Blocked(%v, %d) = %v", l, i, got)
				}
			}
		}
	}
	fences := slices.Repeat([]api.Ent{{PC: fence}}, 6)
	for _, l := range [][]api.Ent{nil, {}, fences[:0]} {
		for _, i := range oddNumbers {
			if Blocked(p, l, i) {
				t.Error("nothing blocks", i)
			}
		}
	}
	for i := range 8 {
		if Blocked(p, fences, i) != (i > 0) {
			t.Error("fences", i)
		}
	}
}

// someProg is a program made at random, mostly of what puts something in a register.
func someProg(t *testing.T, r *rand.Rand) api.Prog {
	w := 1 + r.Intn(5)
	cells := 1 << min(w, 4)
	lines := []string{fmt.Sprintf("width %d", w), "secret r1", fmt.Sprintf("secret k %d", cells)}
	reg := func() string { return fmt.Sprintf("r%d", r.Intn(4)) }
	val := func() string { return []string{reg(), reg(), fmt.Sprint(r.Intn(40))}[r.Intn(3)] }
	n := 1 + r.Intn(9)
	label := func() string { return fmt.Sprintf("l%d", r.Intn(n+1)) }
	for at := range n {
		lines = append(lines, fmt.Sprintf("l%d:", at), []string{
			fmt.Sprintf("add %s, %s, %s", reg(), val(), val()),
			fmt.Sprintf("mul %s, %s, %s", reg(), val(), val()),
			fmt.Sprintf("mov %s, %s", reg(), val()),
			fmt.Sprintf("load %s, [%s + %s]", reg(), val(), val()),
			fmt.Sprintf("cmov %s, %s, %s", reg(), val(), val()),
			fmt.Sprintf("cmov %s, %s, %s", reg(), val(), val()),
			fmt.Sprintf("store [%s + %s], %s", val(), val(), reg()),
			fmt.Sprintf("br lt %s, %s, %s", val(), val(), label()),
			"jmp " + label(), "call " + label(), "ret", "ind " + val(), "fence", "halt",
		}[r.Intn(14)])
	}
	return read(t, append(lines, fmt.Sprintf("l%d:", n))...)
}

func someStart(t *testing.T, r *rand.Rand, p api.Prog) api.State {
	l := make([]int, len(arch.Places(p)))
	for i := range l {
		l[i] = r.Intn(1 << p.W)
	}
	s, ok := arch.Start(p, l)
	if !ok {
		t.Fatal(p, l)
	}
	for i := range s.Regs {
		s.Regs[i] = r.Intn(1 << p.W)
	}
	return s
}

// underWay are the first n instructions of a run from s on, each with the Val that it comes to one by one, and the states ahead of each, and behind all.
func underWay(p api.Prog, s api.State, n int) ([]api.Ent, []api.State) {
	var l []api.Ent
	states := []api.State{s}
	for range n {
		next, _, end := seqm.Step(p, s)
		if end != 0 {
			break
		}
		e := api.Ent{PC: s.PC, From: -1, Next: next.PC, Done: true}
		switch i := p.Ins[s.PC]; i.Kind {
		case api.IAlu, api.ILoad, api.ICmov:
			e.Val = next.Regs[i.D]
		case api.IStore:
			e.Val = s.Regs[i.D]
		}
		l, s = append(l, e), next
		states = append(states, s)
	}
	return l, states
}

// 10.2: with all ahead of it done as one by one it would be, what the i-th uses is what would be committed then, however many of them are committed already.
func TestAsCommitted(t *testing.T) {
	r := rand.New(rand.NewSource(10))
	looked := 0
	for range 4000 {
		p := someProg(t, r)
		l, states := underWay(p, someStart(t, r, p), 6)
		for gone := range states {
			for i := range l[gone:] {
				looked++
				for n, want := range states[gone+i].Regs {
					if got, ok := Reg(p, states[gone].Regs, l[gone:], i, n); got != want || !ok {
						t.Fatalf("%v: Reg(%v, %v, %d, %d) = %d, %v, want %d", p, states[gone].Regs, l[gone:], i, n, got, ok, want)
					}
					if got, ok := Val(p, states[gone].Regs, l[gone:], i, api.Val{Reg: true, N: n}); got != want || !ok {
						t.Fatalf("%v: Val(%v, %v, %d, r%d) = %d, %v, want %d", p, states[gone].Regs, l[gone:], i, n, got, ok, want)
					}
				}
			}
		}
	}
	if looked < 10000 {
		t.Error("too few were looked at", looked)
	}
}

// 10.2: what is told while some are not done is what would be committed; it is not told just if it hangs on one that is not done.
func TestPartlyDone(t *testing.T) {
	r := rand.New(rand.NewSource(100))
	told, untold := 0, 0
	for range 4000 {
		p := someProg(t, r)
		l, states := underWay(p, someStart(t, r, p), 6)
		for i := range l {
			if r.Intn(2) == 0 {
				l[i].Done, l[i].Val = false, r.Intn(1<<p.W)
			}
		}
		known := [4]bool{true, true, true, true}
		for i, s := range states {
			for n, want := range s.Regs {
				got, ok := Reg(p, states[0].Regs, l, i, n)
				if ok != known[n] || ok && got != want || !ok && got != 0 {
					t.Fatalf("%v: Reg(%v, %v, %d, %d) = %d, %v, want %d, %v", p, states[0].Regs, l, i, n, got, ok, want, known[n])
				}
				if ok {
					told++
				} else {
					untold++
				}
			}
			if i < len(l) {
				if d, ok := Dest(p.Ins[l[i].PC]); ok {
					known[d] = l[i].Done
				}
			}
		}
	}
	if told < 10000 || untold < 2000 {
		t.Error("too few", told, untold)
	}
}

// 10.2: what the oldest comes to, committed and popped, leaves what all others use as it was, told or not; nor does what is dropped or comes behind change it.
func TestCommitOne(t *testing.T) {
	r := rand.New(rand.NewSource(1000))
	for range 4000 {
		p := someProg(t, r)
		regs := someStart(t, r, p).Regs
		var l []api.Ent
		for range 1 + r.Intn(6) {
			l = append(l, api.Ent{PC: r.Intn(len(p.Ins) + 1), Val: r.Intn(1 << p.W), From: r.Intn(3) - 1, Done: r.Intn(3) > 0})
		}
		l[0].Done = true
		first, rest, _ := robq.Pop(l)
		after := regs
		if d, ok := Dest(seqm.At(p, first.PC)); ok {
			after[d] = first.Val
		}
		longer, _ := robq.Push(l, api.Ent{PC: r.Intn(len(p.Ins)), Val: r.Intn(1 << p.W), Done: true}, 7)
		for i := 1; i <= len(l); i++ {
			for n := range 4 {
				want, ok := Reg(p, regs, l, i, n)
				if got, told := Reg(p, after, rest, i-1, n); got != want || told != ok {
					t.Fatalf("%v: %v, %v, popped: Reg(%d, %d) = %d, %v, want %d, %v", p, regs, l, i, n, got, told, want, ok)
				}
				for _, other := range [][]api.Ent{longer, robq.Cut(l, i)} {
					if got, told := Reg(p, regs, other, i, n); got != want || told != ok {
						t.Fatalf("%v: %v, %v: Reg(%d, %d) = %d, %v, want %d, %v", p, regs, other, i, n, got, told, want, ok)
					}
				}
			}
		}
	}
}

// oddProgs are programs that can't be.
func oddProgs() []api.Prog {
	l := []api.Prog{{}, {W: 4}, {W: math.MinInt, Mems: []api.Mem{{N: math.MaxInt}}}}
	for _, w := range []int{-1, 0, 4, 17} {
		for _, n := range oddNumbers {
			p := api.Prog{W: w, Regs: [4]int{n, n, n, n}, Window: n, Fuel: n}
			v := api.Val{Reg: true, N: n}
			for kind := -1; kind <= 13; kind++ {
				p.Ins = append(p.Ins, api.Ins{Kind: kind, Op: n, D: n, A: v, B: v, Target: n})
			}
			l = append(l, p, api.Prog{W: w, Ins: []api.Ins{{Kind: n, D: n}}})
		}
	}
	return l
}

// 10.3: no call panics, and each ends, whatever it is given.
func TestNoPanic(t *testing.T) {
	for _, p := range oddProgs() {
		for _, i := range p.Ins {
			Dest(i)
		}
		for _, x := range oddNumbers {
			e := api.Ent{PC: x, Val: x, Addr: x, From: x, Next: x, Done: x%2 == 0}
			regs := [4]int{x, -x, x, x}
			for _, l := range [][]api.Ent{nil, {e}, {{PC: 2}, e, {PC: 10, Done: true}, e}} {
				for _, n := range oddNumbers {
					Blocked(p, l, n)
					if got, ok := Reg(p, regs, l, x, n); !ok && got != 0 || ok && (n < 0 || n > 3) {
						t.Fatal(p, l, x, n, got, ok)
					}
					if got, ok := Val(p, regs, l, n, api.Val{Reg: true, N: x}); !ok && got != 0 {
						t.Fatal(p, l, n, x, got, ok)
					}
					Val(p, regs, l, n, api.Val{N: x})
				}
			}
		}
	}
	many := make([]api.Ent, 100000)
	if got, ok := Reg(kinds(t), [4]int{7}, many, math.MaxInt, 0); got != 7 || !ok || Blocked(kinds(t), many, math.MaxInt) {
		t.Error(got, ok)
	}
}

// DOC.md's rule 3: what is handed in is not changed, nor the spare room behind its lists, and it is not kept.
func TestMemory(t *testing.T) {
	p, kept := kinds(t), kinds(t)
	whole := []api.Ent{{PC: 0, Val: 1, From: 2, Done: true}, {PC: fence, From: -1}, {PC: 1, Val: 4}, {PC: 2, Val: 9, Done: true}, {PC: fence}}
	was := slices.Clone(whole)
	l := whole[:3]
	for i := -1; i < 7; i++ {
		for r := -1; r < 5; r++ {
			Reg(p, [4]int{}, l, i, r)
			Val(p, [4]int{}, l, i, api.Val{Reg: true, N: r})
		}
		Blocked(p, l, i)
	}
	if !slices.Equal(whole, was) || !reflect.DeepEqual(p, kept) {
		t.Error("changed", whole, p)
	}
	l[0].Val = 2
	if got, ok := Reg(p, [4]int{}, l, 1, 1); got != 2 || !ok {
		t.Error("kept", got, ok)
	}
}
