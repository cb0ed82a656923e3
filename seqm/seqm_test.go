package seqm

import (
	"fmt"
	"math"
	"math/rand"
	"reflect"
	"slices"
	"strings"
	"testing"
	"unsafe"

	"augury/api"
	"augury/arch"
	"augury/prog"
)

func read(t *testing.T, lines ...string) api.Prog {
	t.Helper()
	p, line, at, ok := prog.Parse(strings.Join(lines, "\n"))
	if !ok {
		t.Fatalf("Parse(%q) is false at %d, %d", lines, line, at)
	}
	return p
}

func clone(s api.State) api.State {
	s.Mem, s.Stack = slices.Clone(s.Mem), slices.Clone(s.Stack)
	return s
}

// equal has nil and an empty list as the same.
func equal(a, b api.State) bool {
	return a.Regs == b.Regs && slices.Equal(a.Mem, b.Mem) && slices.Equal(a.Stack, b.Stack) && a.PC == b.PC
}

func loads(l ...int) []api.Obs  { return seen(api.BLoad, l) }
func stores(l ...int) []api.Obs { return seen(api.BStore, l) }
func jumps(l ...int) []api.Obs  { return seen(api.BJump, l) }

func seen(kind int, l []int) []api.Obs {
	var all []api.Obs
	for _, at := range l {
		all = append(all, api.Obs{Kind: kind, At: at})
	}
	return all
}

// step is one Step of an instruction that stands at 1 of 5, ahead of which are a width, cells and a fence; a label `zero` stands at 0, `far` at 4, `out` behind them all.
type step struct {
	ins string
	s   api.State
	// What is asked: the state behind it, what is observed, and how it ended.
	want api.State
	obs  []api.Obs
	end  int
}

func (x step) check(t *testing.T, heads ...string) {
	t.Helper()
	lines := append(slices.Clone(heads), "zero:", "fence", x.ins, "fence", "fence", "far:", "halt", "out:")
	p := read(t, lines...)
	x.s.PC = 1
	s, obs, end := Step(p, x.s)
	if !equal(s, x.want) || !slices.Equal(obs, x.obs) || end != x.end {
		t.Errorf("%q of %v = %v, %v, %d, want %v, %v, %d", x.ins, x.s, s, obs, end, x.want, x.obs, x.end)
	}
}

func regs(r0, r1, r2, r3 int) api.State {
	return api.State{Regs: [4]int{r0, r1, r2, r3}}
}

// at is s with a PC.
func at(pc int, s api.State) api.State {
	s.PC = pc
	return s
}

// with is s with a Mem.
func with(s api.State, mem ...int) api.State {
	s.Mem = mem
	return s
}

// called is s with a Stack.
func called(s api.State, stack ...int) api.State {
	s.Stack = stack
	return s
}

// 8.1: At is the instruction at pc, whole.
func TestAt(t *testing.T) {
	p := read(t, "width 4", "top:", "add r3, r1, 9", "br lt r1, 2, end", "store [r1 + 3], r2", "jmp top", "halt", "end:")
	for pc, want := range []api.Ins{
		{Kind: api.IAlu, Op: api.OAdd, D: 3, A: api.Val{Reg: true, N: 1}, B: api.Val{N: 9}},
		{Kind: api.IBr, Op: api.OLt, A: api.Val{Reg: true, N: 1}, B: api.Val{N: 2}, Target: 5},
		{Kind: api.IStore, D: 2, A: api.Val{Reg: true, N: 1}, B: api.Val{N: 3}},
		{Kind: api.IJmp},
		{Kind: api.IHalt},
	} {
		if i := At(p, pc); i != want {
			t.Errorf("At(%d) = %v, want %v", pc, i, want)
		}
	}
}

// 8.1: where there is none At is an IFault (12), and nothing else.
func TestAtNone(t *testing.T) {
	p := read(t, "width 4", "halt", "halt")
	for _, pc := range []int{math.MinInt, -(1 << 32), -2, -1, 2, 3, 32, 1 << 32, math.MaxInt} {
		if i := At(p, pc); i != (api.Ins{Kind: 12}) {
			t.Errorf("At(%d) = %v", pc, i)
		}
	}
	if i := At(api.Prog{}, 0); i != (api.Ins{Kind: api.IFault}) {
		t.Error(i)
	}
}

// 8.1: IAlu puts word.Do of A and B in D, of each op, and goes on.
func TestAlu(t *testing.T) {
	for _, x := range []struct {
		op   string
		want int
	}{
		{"add", 0}, {"sub", 10}, {"and", 1}, {"or", 15}, {"xor", 14}, {"shl", 8}, {"shr", 1}, {"mul", 7}, {"lt", 0}, {"eq", 0},
	} {
		step{x.op + " r2, r0, r3", regs(13, 9, 9, 3), at(2, regs(13, 9, x.want, 3)), nil, 0}.check(t, "width 4")
	}
	for _, x := range []step{
		{"add r0, r0, r0", regs(9, 1, 2, 3), at(2, regs(2, 1, 2, 3)), nil, 0},
		{"sub r3, 1, r3", regs(9, 1, 2, 3), at(2, regs(9, 1, 2, 14)), nil, 0},
		{"shl r1, r1, 4", regs(9, 1, 2, 3), at(2, regs(9, 0, 2, 3)), nil, 0},
		{"shl r1, r1, 17", regs(9, 1, 2, 3), at(2, regs(9, 2, 2, 3)), nil, 0},
		{"lt r1, 16, 1", regs(9, 5, 2, 3), at(2, regs(9, 1, 2, 3)), nil, 0},
		{"lt r1, r2, r3", regs(9, 5, 2, 3), at(2, regs(9, 1, 2, 3)), nil, 0},
		{"eq r1, r2, 18", regs(9, 5, 2, 3), at(2, regs(9, 1, 2, 3)), nil, 0},
		{"mov r1, r3", regs(9, 5, 2, 3), at(2, regs(9, 3, 2, 3)), nil, 0},
		{"mov r1, 99999", regs(9, 5, 2, 3), at(2, regs(9, 15, 2, 3)), nil, 0},
		{"add r1, r2, 1", called(with(regs(9, 5, 2, 3), 7, 8), 3, 4), at(2, called(with(regs(9, 3, 2, 3), 7, 8), 3, 4)), nil, 0},
	} {
		x.check(t, "width 4", "public a 2")
	}
	step{"mul r0, r1, r2", regs(0, 65535, 65535, 0), at(2, regs(1, 65535, 65535, 0)), nil, 0}.check(t, "width 16")
	step{"add r0, r1, 1", regs(0, 1, 0, 0), at(2, regs(0, 1, 0, 0)), nil, 0}.check(t, "width 1")
}

// 8.1: ICmov puts B in D, if A is not 0, and leaves D, if it is; numbers are words of the width.
func TestCmov(t *testing.T) {
	for _, x := range []step{
		{"cmov r0, r1, r2", regs(3, 1, 7, 0), at(2, regs(7, 1, 7, 0)), nil, 0},
		{"cmov r0, r1, r2", regs(3, 15, 0, 0), at(2, regs(0, 15, 0, 0)), nil, 0},
		{"cmov r0, r1, r2", regs(3, 0, 7, 0), at(2, regs(3, 0, 7, 0)), nil, 0},
		{"cmov r3, r3, 5", regs(1, 1, 1, 2), at(2, regs(1, 1, 1, 5)), nil, 0},
		{"cmov r3, r3, 5", regs(1, 1, 1, 0), at(2, regs(1, 1, 1, 0)), nil, 0},
		{"cmov r0, 1, 0", regs(3, 0, 7, 0), at(2, regs(0, 0, 7, 0)), nil, 0},
		{"cmov r0, 0, 9", regs(3, 0, 7, 0), at(2, regs(3, 0, 7, 0)), nil, 0},
		{"cmov r0, 16, 9", regs(3, 0, 7, 0), at(2, regs(3, 0, 7, 0)), nil, 0},
		{"cmov r0, 17, 9", regs(3, 0, 7, 0), at(2, regs(9, 0, 7, 0)), nil, 0},
		{"cmov r0, r2, 300", regs(3, 0, 7, 0), at(2, regs(12, 0, 7, 0)), nil, 0},
	} {
		x.check(t, "width 4")
	}
}

// 8.1: ILoad puts what stands at A and B, added and masked, in D, and observes the address.
func TestLoad(t *testing.T) {
	m := func(s api.State) api.State { return with(s, 11, 12, 13) }
	for _, x := range []step{
		{"load r0, [r1 + r2]", m(regs(9, 1, 1, 0)), at(2, m(regs(13, 1, 1, 0))), loads(2), 0},
		{"load r0, [r1 + 0]", m(regs(9, 0, 1, 0)), at(2, m(regs(11, 0, 1, 0))), loads(0), 0},
		{"load r1, [r1 + r1]", m(regs(9, 1, 0, 0)), at(2, m(regs(9, 13, 0, 0))), loads(2), 0},
		{"load r3, [r1 + r2]", m(regs(0, 15, 2, 0)), at(2, m(regs(0, 15, 2, 12))), loads(1), 0},
		{"load r3, [8 + 8]", m(regs(0, 1, 2, 0)), at(2, m(regs(0, 1, 2, 11))), loads(0), 0},
		{"load r3, [99999 + 3]", m(regs(0, 1, 2, 0)), at(2, m(regs(0, 1, 2, 13))), loads(2), 0},
		{"load r0, [r1 + 2]", m(regs(9, 1, 1, 0)), at(1, m(regs(9, 1, 1, 0))), nil, api.EFault},
		{"load r0, [r1 + 2]", m(regs(9, 13, 1, 0)), at(1, m(regs(9, 13, 1, 0))), nil, api.EFault},
		{"load r0, [r1 + 2]", m(regs(9, 14, 1, 0)), at(2, m(regs(11, 14, 1, 0))), loads(0), 0},
	} {
		x.check(t, "width 4", "public a 2", "secret k 1")
	}
	step{"load r0, [0 + 0]", regs(5, 0, 0, 0), at(1, regs(5, 0, 0, 0)), nil, api.EFault}.check(t, "width 4")
	step{"load r0, [r1 + 1]", with(regs(5, 1, 0, 0), 0, 1), at(2, with(regs(0, 1, 0, 0), 0, 1)), loads(0), 0}.check(t, "width 1", "public a 2")
	step{"load r0, [32768 + 32768]", with(regs(5, 1, 0, 0), 60000), at(2, with(regs(60000, 1, 0, 0), 60000)), loads(0), 0}.check(t, "width 16", "public a 1")
}

// 8.1: IStore puts D at A and B, added and masked, and observes the address.
func TestStore(t *testing.T) {
	for _, x := range []step{
		{"store [r1 + r2], r0", with(regs(9, 1, 1, 0), 11, 12, 13), at(2, with(regs(9, 1, 1, 0), 11, 12, 9)), stores(2), 0},
		{"store [r1 + 0], r3", with(regs(9, 0, 1, 7), 11, 12, 13), at(2, with(regs(9, 0, 1, 7), 7, 12, 13)), stores(0), 0},
		{"store [r1 + 0], r1", with(regs(9, 1, 1, 7), 11, 12, 13), at(2, with(regs(9, 1, 1, 7), 11, 1, 13)), stores(1), 0},
		{"store [r1 + r2], r3", with(regs(0, 15, 2, 5), 11, 12, 13), at(2, with(regs(0, 15, 2, 5), 11, 5, 13)), stores(1), 0},
		{"store [99999 + 3], r3", with(regs(0, 15, 2, 5), 11, 12, 13), at(2, with(regs(0, 15, 2, 5), 11, 12, 5)), stores(2), 0},
		{"store [r1 + 2], r0", with(regs(9, 1, 1, 0), 11, 12, 13), at(1, with(regs(9, 1, 1, 0), 11, 12, 13)), nil, api.EFault},
		{"store [r1 + 2], r0", with(regs(9, 13, 1, 0), 11, 12, 13), at(1, with(regs(9, 13, 1, 0), 11, 12, 13)), nil, api.EFault},
	} {
		x.check(t, "width 4", "public a 2", "secret k 1")
	}
	step{"store [0 + 0], r0", regs(5, 0, 0, 0), at(1, regs(5, 0, 0, 0)), nil, api.EFault}.check(t, "width 4")
}

// 8.1: IBr goes to Target, if word.Do of Op is not 0, else on, and observes where it goes in both.
func TestBranch(t *testing.T) {
	for _, x := range []struct {
		test   string
		r1, r2 int
		far    bool
	}{
		{"add r1, r2", 9, 7, false}, {"add r1, r2", 9, 6, true},
		{"sub r1, r2", 9, 9, false}, {"sub r1, r2", 8, 9, true},
		{"and r1, r2", 12, 3, false}, {"and r1, r2", 12, 4, true},
		{"or r1, r2", 0, 0, false}, {"or r1, r2", 0, 8, true},
		{"xor r1, r2", 6, 6, false}, {"xor r1, r2", 6, 7, true},
		{"shl r1, r2", 8, 1, false}, {"shl r1, r2", 4, 1, true},
		{"shr r1, r2", 1, 1, false}, {"shr r1, r2", 2, 1, true},
		{"mul r1, r2", 4, 4, false}, {"mul r1, r2", 4, 3, true},
		{"lt r1, r2", 4, 4, false}, {"lt r1, r2", 4, 5, true},
		{"eq r1, r2", 4, 5, false}, {"eq r1, r2", 4, 4, true},
		{"eq r1, 20", 4, 0, true}, {"lt 16, r1", 4, 0, true}, {"lt r1, 16", 4, 0, false}, {"lt 3, 4", 0, 0, true}, {"and 16, 16", 0, 0, false},
	} {
		to := 2
		if x.far {
			to = 4
		}
		s := called(with(regs(6, x.r1, x.r2, 7), 1, 2), 3)
		step{"br " + x.test + ", far", s, at(to, s), jumps(to), 0}.check(t, "width 4", "public a 2")
	}
	step{"br eq r0, 0, zero", regs(0, 1, 2, 3), at(0, regs(0, 1, 2, 3)), jumps(0), 0}.check(t, "width 4")
	step{"br eq r0, 0, out", regs(0, 1, 2, 3), at(5, regs(0, 1, 2, 3)), jumps(5), 0}.check(t, "width 4")
	step{"br eq r0, 1, out", regs(0, 1, 2, 3), at(2, regs(0, 1, 2, 3)), jumps(2), 0}.check(t, "width 4")
}

// 8.1: IJmp and IFence observe nothing; IInd goes to A, but to no more than the number of instructions, and observes where it goes.
func TestJumps(t *testing.T) {
	s := called(with(regs(3, 15, 0, 5), 1, 2), 3)
	for _, x := range []step{
		{"jmp zero", s, at(0, s), nil, 0},
		{"jmp far", s, at(4, s), nil, 0},
		{"jmp out", s, at(5, s), nil, 0},
		{"fence", s, at(2, s), nil, 0},
		{"ind r0", s, at(3, s), jumps(3), 0},
		{"ind r1", s, at(5, s), jumps(5), 0},
		{"ind r2", s, at(0, s), jumps(0), 0},
		{"ind r3", s, at(5, s), jumps(5), 0},
		{"ind 1", s, at(1, s), jumps(1), 0},
		{"ind 4", s, at(4, s), jumps(4), 0},
		{"ind 5", s, at(5, s), jumps(5), 0},
		{"ind 6", s, at(5, s), jumps(5), 0},
		{"ind 18", s, at(2, s), jumps(2), 0},
		{"ind 15", s, at(5, s), jumps(5), 0},
	} {
		x.check(t, "width 4", "public a 2")
	}
	step{"ind 99999", s, at(5, s), jumps(5), 0}.check(t, "width 16", "public a 2")
}

// 8.1: ICall puts PC and 1 on the Stack, if it has not 4, and IRet takes what was put last, if there is any.
func TestStack(t *testing.T) {
	s := with(regs(3, 15, 0, 5), 1, 2)
	for _, x := range []step{
		{"call far", s, at(4, called(s, 2)), nil, 0},
		{"call zero", called(s, 9), at(0, called(s, 9, 2)), nil, 0},
		{"call out", called(s, 5, 4), at(5, called(s, 5, 4, 2)), nil, 0},
		{"call far", called(s, 5, 4, 3), at(4, called(s, 5, 4, 3, 2)), nil, 0},
		{"call far", called(s, 5, 4, 3, 2), at(1, called(s, 5, 4, 3, 2)), nil, api.EFault},
		{"ret", s, at(1, s), nil, api.EFault},
		{"ret", called(s, 4), at(4, s), jumps(4), 0},
		{"ret", called(s, 4, 0), at(0, called(s, 4)), jumps(0), 0},
		{"ret", called(s, 1, 2, 3, 5), at(5, called(s, 1, 2, 3)), jumps(5), 0},
	} {
		x.check(t, "width 4", "public a 2")
	}
}

// 8.1: IHalt and IFault end with the state as it was, and observe nothing.
func TestEnds(t *testing.T) {
	s := called(with(regs(3, 15, 0, 5), 1, 2), 3)
	step{"halt", s, at(1, s), nil, 1}.check(t, "width 4", "public a 2")
	p := read(t, "width 4", "public a 2", "halt", "halt")
	for _, pc := range []int{math.MinInt, -1, 2, 3, math.MaxInt} {
		got, obs, end := Step(p, at(pc, s))
		if !equal(got, at(pc, s)) || len(obs) != 0 || end != 2 {
			t.Error(pc, got, obs, end)
		}
	}
}

// sum adds the cells up by calls, and then goes where no cell is, or halts.
func sum(t *testing.T) api.Prog {
	return read(t, "width 4", "fuel 3", "public r3", "public a 3", "secret k 1",
		"next:", "call total", "add r0, r0, 1", "br lt r0, 3, next", "br eq r3, 0, end", "store [r3 + 1], r1", "jmp next", "end:", "halt",
		"total:", "load r2, [r0 + 0]", "add r1, r1, r2", "ret")
}

// sumSeen is what is observed of all its calls.
var sumSeen = []api.Obs{
	{Kind: api.BLoad, At: 0}, {Kind: api.BJump, At: 1}, {Kind: api.BJump, At: 0},
	{Kind: api.BLoad, At: 1}, {Kind: api.BJump, At: 1}, {Kind: api.BJump, At: 0},
	{Kind: api.BLoad, At: 2}, {Kind: api.BJump, At: 1}, {Kind: api.BJump, At: 3},
}

// 8.1: Run tells the state, all observations in order, how many Steps were done, the one that ended it among them, and how it ended.
func TestRun(t *testing.T) {
	p := sum(t)
	for _, x := range []struct {
		s    api.State
		n    int
		want api.State
		obs  []api.Obs
		done int
		end  int
	}{
		{with(regs(0, 0, 0, 0), 3, 4, 5, 6), 1000, at(6, with(regs(3, 12, 5, 0), 3, 4, 5, 6)), append(slices.Clone(sumSeen), jumps(6)...), 20, 1},
		{with(regs(0, 0, 0, 0), 3, 4, 5, 6), 20, at(6, with(regs(3, 12, 5, 0), 3, 4, 5, 6)), append(slices.Clone(sumSeen), jumps(6)...), 20, 1},
		{with(regs(0, 0, 0, 0), 3, 4, 5, 6), 19, at(6, with(regs(3, 12, 5, 0), 3, 4, 5, 6)), append(slices.Clone(sumSeen), jumps(6)...), 19, 0},
		{with(regs(0, 0, 0, 0), 3, 4, 5, 6), 18, at(3, with(regs(3, 12, 5, 0), 3, 4, 5, 6)), sumSeen, 18, 0},
		{with(regs(0, 0, 0, 0), 3, 4, 5, 6), 2, at(8, called(with(regs(0, 0, 3, 0), 3, 4, 5, 6), 1)), loads(0), 2, 0},
		{with(regs(0, 0, 0, 0), 3, 4, 5, 6), 1, at(7, called(with(regs(0, 0, 0, 0), 3, 4, 5, 6), 1)), nil, 1, 0},
		{with(regs(0, 0, 0, 0), 3, 4, 5, 6), 0, with(regs(0, 0, 0, 0), 3, 4, 5, 6), nil, 0, 0},
		{with(regs(0, 0, 0, 0), 3, 4, 5, 6), -1, with(regs(0, 0, 0, 0), 3, 4, 5, 6), nil, 0, 0},
		{with(regs(0, 0, 0, 0), 3, 4, 5, 6), math.MinInt, with(regs(0, 0, 0, 0), 3, 4, 5, 6), nil, 0, 0},
		{with(regs(0, 0, 0, 3), 3, 4, 5, 6), math.MaxInt, at(4, with(regs(3, 12, 5, 3), 3, 4, 5, 6)), append(slices.Clone(sumSeen), jumps(4)...), 20, 2},
		{at(6, regs(1, 2, 3, 4)), 5, at(6, regs(1, 2, 3, 4)), nil, 1, 1},
		{at(6, regs(1, 2, 3, 4)), 0, at(6, regs(1, 2, 3, 4)), nil, 0, 0},
		{at(-1, regs(1, 2, 3, 4)), 5, at(-1, regs(1, 2, 3, 4)), nil, 1, 2},
		{at(10, regs(1, 2, 3, 4)), 5, at(10, regs(1, 2, 3, 4)), nil, 1, 2},
		{at(10, regs(1, 2, 3, 4)), -5, at(10, regs(1, 2, 3, 4)), nil, 0, 0},
	} {
		s, obs, done, end := Run(p, x.s, x.n)
		if !equal(s, x.want) || !slices.Equal(obs, x.obs) || done != x.done || end != x.end {
			t.Errorf("Run of %v, %d = %v, %v, %d, %d", x.s, x.n, s, obs, done, end)
		}
	}
}

// 8.1: Fuel does not hold Run, and a long Run is done step by step without copies, so it ends soon.
func TestLongRun(t *testing.T) {
	p := read(t, "width 16", "fuel 1", "public a 16", "top:", "add r0, r0, 1", "store [r1 + 3], r0", "jmp top")
	const n = 3000001
	s, obs, done, end := Run(p, api.State{Mem: make([]int, 16)}, n)
	want := api.State{Regs: [4]int{1000001 % 65536}, Mem: make([]int, 16), PC: 1}
	want.Mem[3] = 1000000 % 65536
	if !equal(s, want) || len(obs) != 1000000 || obs[0] != obs[999999] || obs[0] != (api.Obs{Kind: api.BStore, At: 3}) || done != n || end != 0 {
		t.Error(s, len(obs), done, end)
	}
	p = read(t, "width 4", "f:", "call f")
	if s, obs, done, end := Run(p, api.State{}, math.MaxInt); !slices.Equal(s.Stack, []int{1, 1, 1, 1}) || len(obs) != 0 || done != 5 || end != api.EFault {
		t.Error(s, obs, done, end)
	}
}

// opNames are the ops by number.
var opNames = []string{"", "add", "sub", "and", "or", "xor", "shl", "shr", "mul", "lt", "eq"}

// someProg is a program made at random, with every kind of instruction in it.
func someProg(t *testing.T, r *rand.Rand) api.Prog {
	w := 1 + r.Intn(5)
	if r.Intn(8) == 0 {
		w = 16
	}
	lines := []string{fmt.Sprintf("width %d", w), "public r0", "secret r1"}
	if n := r.Intn(min(16, 1<<w) + 1); n > 0 {
		lines = append(lines, fmt.Sprintf("secret k %d", n))
	}
	reg := func() string { return fmt.Sprintf("r%d", r.Intn(4)) }
	val := func() string {
		switch r.Intn(8) {
		case 0:
			return fmt.Sprint(r.Intn(100000))
		case 1, 2, 3:
			return fmt.Sprint(r.Intn(4))
		}
		return reg()
	}
	n := 1 + r.Intn(12)
	label := func() string { return fmt.Sprintf("l%d", r.Intn(n+1)) }
	for at := range n {
		op := opNames[1+r.Intn(10)]
		lines = append(lines, fmt.Sprintf("l%d:", at), []string{
			fmt.Sprintf("%s %s, %s, %s", op, reg(), val(), val()),
			fmt.Sprintf("mov %s, %s", reg(), val()),
			fmt.Sprintf("load %s, [%s + %s]", reg(), val(), val()),
			fmt.Sprintf("load %s, [%s + 0]", reg(), reg()),
			fmt.Sprintf("store [%s + %s], %s", val(), val(), reg()),
			fmt.Sprintf("cmov %s, %s, %s", reg(), val(), val()),
			fmt.Sprintf("br %s %s, %s, %s", op, val(), val(), label()),
			"jmp " + label(),
			"call " + label(), "call " + label(),
			"ind " + val(),
			"ret", "ret", "fence", "halt",
		}[r.Intn(15)])
	}
	return read(t, append(lines, fmt.Sprintf("l%d:", n))...)
}

// someState is any state of p within its bounds.
func someState(r *rand.Rand, p api.Prog) api.State {
	s := api.State{PC: r.Intn(len(p.Ins)+2) - 1}
	for i := range s.Regs {
		s.Regs[i] = r.Intn(1 << p.W)
	}
	for range arch.Cells(p) {
		s.Mem = append(s.Mem, r.Intn(1<<p.W))
	}
	for range r.Intn(5) {
		s.Stack = append(s.Stack, r.Intn(len(p.Ins)+1))
	}
	return s
}

// plain is Step written another way: what comes of an instruction is told first, and put in a new state then.
func plain(p api.Prog, s api.State) (api.State, []api.Obs, int) {
	if s.PC < 0 || s.PC >= len(p.Ins) {
		return s, nil, 2
	}
	i := p.Ins[s.PC]
	size := 1 << p.W
	val := func(v api.Val) int {
		if v.Reg {
			return s.Regs[v.N]
		}
		return v.N % size
	}
	a, b := val(i.A), val(i.B)
	addr := (a + b) % size
	faults := (i.Kind == api.ILoad || i.Kind == api.IStore) && addr >= len(s.Mem) ||
		i.Kind == api.ICall && len(s.Stack) == 4 || i.Kind == api.IRet && len(s.Stack) == 0
	if faults {
		return s, nil, 2
	}
	next := clone(s)
	next.PC++
	var obs []api.Obs
	switch i.Kind {
	case api.IHalt:
		return s, nil, 1
	case api.IAlu:
		next.Regs[i.D] = plainOp(i.Op, p.W, a, b)
	case api.ICmov:
		next.Regs[i.D] = []int{b, s.Regs[i.D]}[plainOp(api.OEq, p.W, a, 0)]
	case api.ILoad:
		next.Regs[i.D] = s.Mem[addr]
		obs = loads(addr)
	case api.IStore:
		next.Mem[addr] = s.Regs[i.D]
		obs = stores(addr)
	case api.IBr:
		if plainOp(i.Op, p.W, a, b) != 0 {
			next.PC = i.Target
		}
		obs = jumps(next.PC)
	case api.IJmp:
		next.PC = i.Target
	case api.IInd:
		next.PC = a
		if a > len(p.Ins) {
			next.PC = len(p.Ins)
		}
		obs = jumps(next.PC)
	case api.ICall:
		next.PC, next.Stack = i.Target, slices.Concat(s.Stack, []int{s.PC + 1})
	case api.IRet:
		next.PC, next.Stack = s.Stack[len(s.Stack)-1], slices.Clone(s.Stack[:len(s.Stack)-1])
		obs = jumps(next.PC)
	}
	return next, obs, 0
}

func plainOp(op, w, a, b int) int {
	size := 1 << w
	switch op {
	case api.OAdd:
		return (a + b) % size
	case api.OSub:
		return (a - b + size) % size
	case api.OAnd:
		return a & b
	case api.OOr:
		return a | b
	case api.OXor:
		return a ^ b
	case api.OShl, api.OShr:
		for range min(b, w) {
			if op == api.OShl {
				a = a * 2 % size
			} else {
				a /= 2
			}
		}
		return a
	case api.OMul:
		return a * b % size
	case api.OLt:
		return map[bool]int{true: 1}[a < b]
	}
	return map[bool]int{true: 1}[a == b]
}

// plainRun is Run by plain steps.
func plainRun(p api.Prog, s api.State, n int) (api.State, []api.Obs, int, int) {
	var all []api.Obs
	for done := range max(n, 0) {
		next, obs, end := plain(p, s)
		s, all = next, append(all, obs...)
		if end != 0 {
			return s, all, done + 1, end
		}
	}
	return s, all, max(n, 0), 0
}

// 8.1: Step and Run of many programs and states, among them such as no beginning comes to.
func TestManyProgs(t *testing.T) {
	r := rand.New(rand.NewSource(8))
	kinds, ends := map[int]int{}, map[int]int{}
	for range 20000 {
		p := someProg(t, r)
		s := someState(r, p)
		n := r.Intn(60)
		was := clone(s)
		got, obs, end := Step(p, s)
		if want, wantObs, wantEnd := plain(p, s); !equal(got, want) || !slices.Equal(obs, wantObs) || end != wantEnd {
			t.Fatalf("Step(%v, %v) = %v, %v, %d, want %v, %v, %d", p, s, got, obs, end, want, wantObs, wantEnd)
		}
		kinds[At(p, s.PC).Kind]++
		got, obs, done, end := Run(p, s, n)
		if want, wantObs, wantDone, wantEnd := plainRun(p, s, n); !equal(got, want) || !slices.Equal(obs, wantObs) || done != wantDone || end != wantEnd {
			t.Fatalf("Run(%v, %v, %d) = %v, %v, %d, %d, want %v, %v, %d, %d", p, s, n, got, obs, done, end, want, wantObs, wantDone, wantEnd)
		}
		ends[end]++
		if !equal(s, was) {
			t.Fatal("the state handed in is changed", p, was, s)
		}
	}
	for kind := api.IAlu; kind <= api.IFault; kind++ {
		if kinds[kind] < 200 {
			t.Error("too few of kind", kind, kinds[kind])
		}
	}
	if ends[0] < 500 || ends[api.EHalt] < 500 || ends[api.EFault] < 500 {
		t.Error("too few of an end", ends)
	}
}

// inBounds tells whether s is as a program's states are: words in Regs and Mem, at most 4 return places, PC and these at an instruction or behind them all.
func inBounds(p api.Prog, s api.State) bool {
	for _, n := range append(s.Regs[:], s.Mem...) {
		if n < 0 || n >= 1<<p.W {
			return false
		}
	}
	for _, pc := range append([]int{s.PC}, s.Stack...) {
		if pc < 0 || pc > len(p.Ins) {
			return false
		}
	}
	return len(s.Mem) == arch.Cells(p) && len(s.Stack) <= 4
}

// 8.2: what is committed one by one hangs on program and state alone, whatever Labels, Window and Fuel are, and on each step alone: as many Steps come to it, and a Run cut in two; it stays within its bounds, and an end stays an end.
func TestOneByOne(t *testing.T) {
	r := rand.New(rand.NewSource(88))
	for range 5000 {
		p := someProg(t, r)
		l := make([]int, len(arch.Places(p)))
		for i := range l {
			l[i] = r.Intn(1 << p.W)
		}
		begin, ok := arch.Start(p, l)
		if !ok {
			t.Fatal(p, l)
		}
		bare := p
		bare.Labels, bare.Window, bare.Fuel = nil, 0, -3
		n, cut := 40, r.Intn(41)
		s, obs, done, end := Run(p, begin, n)
		if s2, obs2, done2, end2 := Run(bare, begin, n); !equal(s, s2) || !slices.Equal(obs, obs2) || done != done2 || end != end2 {
			t.Fatalf("Run(%v, %v) hangs on what does not count", p, begin)
		}
		a, obsA, doneA, endA := Run(p, begin, cut)
		if endA == 0 {
			b, obsB, doneB, endB := Run(p, a, n-cut)
			a, obsA, doneA, endA = b, append(obsA, obsB...), doneA+doneB, endB
		}
		if !equal(s, a) || !slices.Equal(obs, obsA) || done != doneA || end != endA {
			t.Fatalf("Run(%v, %v) cut at %d comes to another", p, begin, cut)
		}
		checkSteps(t, p, begin, done, s, obs, end)
		if end != 0 {
			if again, more, done, end2 := Run(p, s, 5); !equal(s, again) || len(more) != 0 || done != 1 || end2 != end {
				t.Fatalf("the end %v of %v goes on", s, p)
			}
		}
	}
}

// checkSteps does n Steps from s on, which must come to what is asked.
func checkSteps(t *testing.T, p api.Prog, s api.State, n int, want api.State, wantObs []api.Obs, wantEnd int) {
	t.Helper()
	var all []api.Obs
	end := 0
	for range n {
		if end != 0 || !inBounds(p, s) {
			t.Fatal(p, s, end)
		}
		next, obs, now := Step(p, s)
		if now != 0 && (len(obs) > 0 || !equal(next, s)) {
			t.Fatal("what ended changed something", p, s, next, obs)
		}
		s, all, end = next, append(all, obs...), now
	}
	if !inBounds(p, s) || !equal(s, want) || !slices.Equal(all, wantObs) || end != wantEnd {
		t.Fatalf("%v: %d Steps come to %v, %v, %d, Run to %v, %v, %d", p, n, s, all, end, want, wantObs, wantEnd)
	}
}

// 8.1, where Mem is not Cells long: a fault hangs on Cells alone; what is not there is 0, and nothing is put there.
func TestOtherMem(t *testing.T) {
	p := read(t, "width 4", "public a 3", "load r0, [r1 + 0]", "store [r1 + 0], r2")
	for n := range 6 {
		for at := range 6 {
			mem := []int{7, 7, 7, 7, 7, 7}[:n]
			s := api.State{Regs: [4]int{5, at, 9, 5}, Mem: slices.Clone(mem)}
			want, end := clone(s), api.EFault
			if at < 3 {
				want.PC, want.Regs[0], end = 1, 0, 0
				if at < n {
					want.Regs[0] = 7
				}
			}
			if got, obs, e := Step(p, s); !equal(got, want) || len(obs) != 1-e/2 || e != end {
				t.Error("load", n, at, got, obs, e)
			}
			s.PC = 1
			want, end = clone(s), api.EFault
			if at < 3 {
				want.PC, end = 2, 0
				if at < n {
					want.Mem[at] = 9
				}
			}
			if got, obs, e := Step(p, s); !equal(got, want) || len(obs) != 1-e/2 || e != end {
				t.Error("store", n, at, got, obs, e)
			}
		}
	}
}

var oddNumbers = []int{math.MinInt, -17, -1, 0, 1, 4, 12, 13, 17, 1 << 31, math.MaxInt}

// oddProgs are programs that can't be.
func oddProgs() []api.Prog {
	l := []api.Prog{{}, {W: 4}, {W: math.MinInt, Mems: []api.Mem{{N: 3}}}, {W: 4, Mems: []api.Mem{{N: math.MaxInt}}}}
	for _, w := range []int{-1, 0, 1, 4, 17} {
		for _, n := range oddNumbers {
			p := api.Prog{W: w, Regs: [4]int{n, n, n, n}, Mems: []api.Mem{{N: 2}, {N: n}}}
			for kind := -1; kind <= 13; kind++ {
				for _, reg := range []bool{false, true} {
					v := api.Val{Reg: reg, N: n}
					p.Ins = append(p.Ins, api.Ins{Kind: kind, Op: n, D: n, A: v, B: v, Target: n}, api.Ins{Kind: kind, Op: 1, D: n, A: api.Val{}, B: api.Val{N: 1}, Target: n})
				}
			}
			p.Ins = append(p.Ins, api.Ins{Kind: n})
			l = append(l, p)
		}
	}
	return l
}

func oddStates() []api.State {
	l := []api.State{{}, {Mem: []int{}, Stack: []int{}}, {Mem: make([]int, 1000), Stack: make([]int, 1000)}}
	for n := range 7 {
		for _, x := range oddNumbers {
			l = append(l, api.State{Regs: [4]int{x, -x, x, x}, Mem: slices.Repeat([]int{x}, n), Stack: slices.Repeat([]int{x}, n)})
		}
	}
	return l
}

// 8.3: no call panics, and each ends, whatever it is given; nor does it change what it was given.
func TestNoPanic(t *testing.T) {
	states := oddStates()
	for _, p := range oddProgs() {
		pcs := slices.Clone(oddNumbers)
		for pc := range p.Ins {
			pcs = append(pcs, pc)
		}
		for _, pc := range pcs {
			At(p, pc)
			for _, s := range states {
				s.PC = pc
				was := clone(s)
				_, obs, end := Step(p, s)
				if end < 0 || end > api.EFault || len(obs) > 1 || end != 0 && len(obs) > 0 {
					t.Fatal(p, s, obs, end)
				}
				Run(p, s, 20)
				if !equal(s, was) {
					t.Fatal("the state handed in is changed", p, was, s)
				}
			}
		}
		for _, n := range []int{math.MinInt, -1, 0, 1, 500} {
			if _, _, done, _ := Run(p, api.State{}, n); done < 0 || done > max(n, 0) {
				t.Fatal(p, n, done)
			}
		}
	}
}

// 8.3: an instruction of no kind of the chapter is a fault; a register that is none holds 0, and takes nothing.
func TestOddInstructions(t *testing.T) {
	for _, kind := range []int{math.MinInt, -1, 0, api.IFault, 13, math.MaxInt} {
		p := api.Prog{W: 4, Ins: []api.Ins{{Kind: kind}}}
		if s, obs, end := Step(p, regs(1, 2, 3, 4)); !equal(s, regs(1, 2, 3, 4)) || len(obs) != 0 || end != api.EFault {
			t.Error(kind, s, obs, end)
		}
	}
	for _, r := range []int{math.MinInt, -1, 4, math.MaxInt} {
		v := api.Val{Reg: true, N: r}
		p := api.Prog{W: 4, Mems: []api.Mem{{N: 1}}, Ins: []api.Ins{{Kind: api.IAlu, Op: api.OAdd, D: 1, A: v, B: api.Val{N: 3}}, {Kind: api.ILoad, D: r, A: v, B: v}, {Kind: api.IStore, D: r, A: v}, {Kind: api.IInd, A: v}}}
		s, obs, done, end := Run(p, with(regs(5, 6, 7, 8), 9), 4)
		if !equal(s, with(regs(5, 3, 7, 8), 0)) || len(obs) != 3 || done != 4 || end != 0 {
			t.Error(r, s, obs, done, end)
		}
	}
}

// spared is l with spare room behind it that no call may write to.
func spared(l ...int) []int {
	long := append(slices.Clone(l), 99, 99, 99)
	return long[:len(l)]
}

func untouched(l []int, want ...int) bool {
	return slices.Equal(l, want) && slices.Equal(l[:len(l)+3][len(l):], []int{99, 99, 99})
}

// shares tells whether two lists, their spare room too, lie in the same memory.
func shares(a, b []int) bool {
	if cap(a) == 0 || cap(b) == 0 {
		return false
	}
	x, y := uintptr(unsafe.Pointer(unsafe.SliceData(a))), uintptr(unsafe.Pointer(unsafe.SliceData(b)))
	return x < y+uintptr(cap(b))*8 && y < x+uintptr(cap(a))*8
}

// DOC.md's rule 3: what is handed in is not changed and not kept; what is answered is new.
func TestMemory(t *testing.T) {
	p := read(t, "width 4", "public a 2", "f:", "call f", "store [0 + 0], r0", "ret", "halt", "load r0, [9 + 0]", "fence")
	kept := read(t, "width 4", "public a 2", "f:", "call f", "store [0 + 0], r0", "ret", "halt", "load r0, [9 + 0]", "fence")
	for pc := -1; pc <= len(p.Ins); pc++ {
		for n := -1; n < 4; n++ {
			s := api.State{Regs: [4]int{5, 0, 0, 0}, Mem: spared(1, 2), Stack: spared(3, 4), PC: pc}
			a, obs, _, _ := Run(p, s, n)
			b, more, _, _ := Run(p, s, n)
			c, _, _ := Step(p, s)
			for _, x := range [][2][]int{{a.Mem, s.Mem}, {a.Stack, s.Stack}, {c.Mem, s.Mem}, {c.Stack, s.Stack}, {a.Mem, a.Stack}, {a.Mem, b.Mem}, {a.Stack, b.Stack}, {a.Stack, s.Mem}, {a.Mem, s.Stack}} {
				if shares(x[0], x[1]) {
					t.Fatal(pc, n, "shares")
				}
			}
			if len(obs) > 0 && len(more) > 0 && &obs[0] == &more[0] {
				t.Fatal(pc, n, "shares observations")
			}
			if !untouched(s.Mem, 1, 2) || !untouched(s.Stack, 3, 4) || !reflect.DeepEqual(p, kept) {
				t.Fatal(pc, n, "changed", s, p)
			}
		}
	}
	i := At(p, 1)
	i.D = 3
	if At(p, 1).D != 0 {
		t.Error("At")
	}
}
