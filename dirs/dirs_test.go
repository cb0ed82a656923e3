package dirs

import (
	"cmp"
	"fmt"
	"math"
	"math/rand"
	"reflect"
	"slices"
	"strings"
	"testing"
	"unsafe"

	"augury/api"
	"augury/arch"
	"augury/conf"
	"augury/exec"
	"augury/fetc"
	"augury/prog"
	"augury/reti"
	"augury/seqm"
)

func read(t *testing.T, lines ...string) api.Prog {
	t.Helper()
	p, line, at, ok := prog.Parse(strings.Join(lines, "\n"))
	if !ok {
		t.Fatalf("Parse(%q) is false at %d, %d", lines, line, at)
	}
	return p
}

// Where kinds has what it has; beyond its end is no instruction.
const (
	adding = iota
	loading
	storing
	moving
	branching
	jumping
	going
	calling
	returning
	fencing
	halting
	beyond
)

// kinds is a program of each kind of instruction, with the greatest window.
func kinds(t *testing.T) api.Prog {
	return read(t, "width 4", "window 6", "public a 4",
		"add r1, r0, r2", "two:", "load r2, [r0 + r2]", "three:", "store [r0 + r2], r1", "cmov r3, r0, r2",
		"br lt r0, r2, three", "jmp two", "ind r0", "call two", "ret", "fence", "halt")
}

var oddNumbers = []int{math.MinInt, math.MinInt + 1, -(1 << 32), -17, -2, -1, 0, 1, 2, 3, 4, 5, 6, 15, 16, 17, 1 << 31, 1 << 32, math.MaxInt - 1, math.MaxInt}

func f(n int) api.Dir { return api.Dir{Kind: api.DFetch, N: n} }
func x(n int) api.Dir { return api.Dir{Kind: api.DExec, N: n} }
func a(n int) api.Dir { return api.Dir{Kind: api.DAddr, N: n} }

// commit is what commits the oldest.
var commit = api.Dir{Kind: api.DRetire}

// fetches are all ways to fetch, of n.
func fetches(n int) []api.Dir {
	var l []api.Dir
	for i := range n {
		l = append(l, f(i))
	}
	return l
}

// at is a machine that fetches at pc, whose numbers can be told from each other.
func at(pc int, l ...api.Ent) api.Conf {
	return api.Conf{State: api.State{Regs: [4]int{1, 9, 2, 15}, Mem: []int{4, 6, 8, 10}, Stack: []int{5, 3}, PC: pc}, Buf: l, Rsb: []int{7, 4}}
}

// begun is what is at pc as it is fetched, where it is not done at once.
func begun(pc int) api.Ent {
	return api.Ent{PC: pc, From: -1, Next: pc + 1}
}

// done is what is at pc, with all done that can be: Val 13, Addr 2.
func done(pc int) api.Ent {
	return api.Ent{PC: pc, Val: 13, Addr: 2, From: -1, Next: pc + 1, Done: true, Known: true}
}

func equalStates(a, b api.State) bool {
	return a.Regs == b.Regs && slices.Equal(a.Mem, b.Mem) && slices.Equal(a.Stack, b.Stack) && a.PC == b.PC
}

// equal has nil and an empty list as the same.
func equal(a, b api.Conf) bool {
	return equalStates(a.State, b.State) && slices.Equal(a.Buf, b.Buf) && slices.Equal(a.Rsb, b.Rsb) && a.End == b.End
}

// nothing is the zero Conf.
func nothing(c api.Conf) bool {
	return reflect.DeepEqual(c, api.Conf{})
}

func clone(c api.Conf) api.Conf {
	c.State.Mem, c.State.Stack, c.Buf, c.Rsb = slices.Clone(c.State.Mem), slices.Clone(c.State.Stack), slices.Clone(c.Buf), slices.Clone(c.Rsb)
	return c
}

// does tells what is wrong, if d can't be said to c, or c comes to anything else than want, or anything else than seen is observed.
func does(t *testing.T, p api.Prog, c api.Conf, d api.Dir, want api.Conf, seen ...api.Obs) {
	t.Helper()
	was := clone(c)
	if !Can(p, c, d) {
		t.Errorf("Can(%v, %v) is false", c, d)
	}
	if got, obs, ok := Do(p, c, d); !ok || !equal(got, want) || !slices.Equal(obs, seen) {
		t.Errorf("Do(%v, %v) = %v, %v, %v, want %v, %v", c, d, got, obs, ok, want, seen)
	}
	if !equal(c, was) {
		t.Errorf("Do(%v, %v) changes what is handed in", was, d)
	}
}

// cannot tells what is wrong, if d can be said to c, or anything is told beside the false.
func cannot(t *testing.T, p api.Prog, c api.Conf, d api.Dir) {
	t.Helper()
	if got, seen, ok := Do(p, c, d); ok || Can(p, c, d) || !nothing(got) || len(seen) > 0 {
		t.Errorf("Do(%v, %v) = %v, %v, %v", c, d, got, seen, ok)
	}
}

// near are Dirs of all Kinds and others, with all N that something may be the N-th of, and others.
func near() []api.Dir {
	var l []api.Dir
	for kind := -1; kind < 7; kind++ {
		for n := -2; n < 36; n++ {
			l = append(l, api.Dir{Kind: kind, N: n})
		}
	}
	return l
}

// only tells what is wrong, if anything can be said to c but want, or that in another order.
func only(t *testing.T, p api.Prog, c api.Conf, want ...api.Dir) {
	t.Helper()
	if got := All(p, c); !slices.Equal(got, want) {
		t.Errorf("All(%v) = %v, want %v", c, got, want)
	}
	for _, d := range near() {
		if !slices.Contains(want, d) {
			cannot(t, p, c, d)
		} else if got, _, ok := Do(p, c, d); !ok || !Can(p, c, d) || nothing(got) {
			t.Errorf("Do(%v, %v) = %v, %v", c, d, got, ok)
		}
	}
}

// 17.1: by Kind, and only of one Kind by N.
func TestLess(t *testing.T) {
	for _, y := range []struct {
		a, b api.Dir
		less bool
	}{
		{f(0), f(1), true},
		{f(1), f(0), false},
		{f(1), f(1), false},
		{f(9), x(0), true},
		{x(0), f(9), false},
		{x(9), a(0), true},
		{a(0), x(9), false},
		{a(9), commit, true},
		{commit, a(9), false},
		{commit, commit, false},
		{f(9), f(10), true},
		{f(-1), f(0), true},
	} {
		if got := Less(y.a, y.b); got != y.less {
			t.Errorf("Less(%v, %v) = %v", y.a, y.b, got)
		}
	}
}

// 17.1: whatever Kind and N are, they are held against each other as they stand, and as no difference of theirs tells that goes beyond all numbers.
func TestLessOfAny(t *testing.T) {
	var l []api.Dir
	for _, kind := range oddNumbers {
		for _, n := range oddNumbers {
			l = append(l, api.Dir{Kind: kind, N: n})
		}
	}
	for i := range l {
		for k := range l {
			if Less(l[i], l[k]) != (i < k) {
				t.Fatalf("Less(%v, %v) = %v", l[i], l[k], i >= k)
			}
		}
	}
}

// 17.1, the example: to what is final nothing can be said.
func TestFinal(t *testing.T) {
	p := kinds(t)
	for _, end := range oddNumbers {
		for pc := range beyond + 1 {
			for _, c := range []api.Conf{at(pc), at(pc, done(adding)), at(pc, begun(storing)), at(pc, begun(fencing))} {
				c.End = end
				if got := All(p, c); (len(got) == 0) != (end != 0) {
					t.Error(pc, end, got)
				}
				if end != 0 {
					only(t, p, c)
				}
			}
		}
	}
}

// 17.1: with nothing under way there is only to fetch, in as many ways as fetc has.
func TestFetches(t *testing.T) {
	p := kinds(t)
	for pc := range beyond + 2 {
		n := 1
		switch pc {
		case branching:
			n = 2
		case going:
			n = beyond + 1
		}
		only(t, p, at(pc), fetches(n)...)
		only(t, p, at(pc, done(jumping)), append(fetches(n), commit)...)
	}
	only(t, p, at(-1))
	only(t, p, at(-1, done(halting)), commit)
}

// 17.1: a return is fetched in any way, unless the buffer tells it one.
func TestFetchesRet(t *testing.T) {
	p := kinds(t)
	only(t, p, at(returning), f(0))
	c := at(returning)
	c.Rsb = nil
	only(t, p, c, fetches(beyond+1)...)
	want := clone(c)
	want.Buf, want.State.PC = []api.Ent{{PC: returning, From: -1, Next: 6}}, 6
	does(t, p, c, f(6), want)
}

// 17.1: where the window is full there is nothing to fetch.
func TestWindow(t *testing.T) {
	p := kinds(t)
	for window := 1; window <= 6; window++ {
		p.Window = window
		for n := range 8 {
			c := at(adding, slices.Repeat([]api.Ent{done(jumping)}, n)...)
			var want []api.Dir
			if n < window {
				want = append(want, f(0))
			}
			if n > 0 {
				want = append(want, commit)
			}
			only(t, p, c, want...)
		}
	}
}

// 17.1: each kind of instruction, begun and the only one under way, with what may be said to it.
func TestEachKind(t *testing.T) {
	p := kinds(t)
	for pc, want := range [][]api.Dir{
		adding:    {x(0)},
		loading:   {x(0)},
		storing:   {x(0), a(0)},
		moving:    {x(0)},
		branching: {x(0)},
		jumping:   nil,
		going:     {x(0)},
		calling:   nil,
		returning: {x(0)},
		fencing:   {commit},
		halting:   nil,
		beyond:    nil,
	} {
		only(t, p, at(-1, begun(pc)), want...)
		only(t, p, at(-1, done(pc)), commit)
		only(t, p, at(adding, begun(pc)), append([]api.Dir{f(0)}, want...)...)
	}
}

// 17.1: what is Known of a store, and what is Done of it, are each said once; with both it is committed.
func TestStore(t *testing.T) {
	p := kinds(t)
	e := begun(storing)
	only(t, p, at(-1, e), x(0), a(0))
	e.Done = true
	only(t, p, at(-1, e), a(0))
	e.Done, e.Known = false, true
	only(t, p, at(-1, e), x(0))
	e.Done = true
	only(t, p, at(-1, e), commit)
}

// 17.1: all that is under way is told by its place, whatever is ahead of it; what waits for a register, or behind a fence, can't be.
func TestUnderWay(t *testing.T) {
	p := kinds(t)
	l := []api.Ent{begun(branching), begun(adding), begun(storing), done(loading), begun(going)}
	only(t, p, at(loading, l...), f(0), x(0), x(1), x(4), a(2))
	// The load puts into r2, of which the cmov and the store's address hang; the store's value does not.
	l = []api.Ent{begun(loading), begun(moving), begun(storing), begun(returning)}
	only(t, p, at(-1, l...), x(0), x(2), x(3))
	l = []api.Ent{done(adding), begun(storing), begun(fencing), begun(adding), begun(storing)}
	only(t, p, at(going, l...), append(fetches(beyond+1), x(1), a(1), commit)...)
	l = []api.Ent{begun(fencing), begun(adding), begun(storing)}
	only(t, p, at(branching, l...), f(0), f(1), commit)
}

// 17.1: a fetch begins what is at PC, by the guess that N tells; nothing is observed.
func TestDoFetch(t *testing.T) {
	p := kinds(t)
	for guess, next := range []int{branching + 1, storing} {
		c := at(branching, begun(adding))
		want := clone(c)
		want.Buf = append(want.Buf, api.Ent{PC: branching, From: -1, Next: next})
		want.State.PC = next
		does(t, p, c, f(guess), want)
	}
	for guess := range beyond + 1 {
		c := at(going)
		want := clone(c)
		want.Buf, want.State.PC = []api.Ent{{PC: going, From: -1, Next: guess}}, guess
		does(t, p, c, f(guess), want)
	}
	c := at(calling)
	want := clone(c)
	want.Buf, want.State.PC, want.Rsb = []api.Ent{{PC: calling, From: -1, Next: loading, Done: true}}, loading, []int{4, calling + 1}
	does(t, p, c, f(0), want)
}

// 17.1: the N-th is done, and what is observed of that is told.
func TestDoExec(t *testing.T) {
	p := kinds(t)
	c := at(storing, begun(adding), begun(loading))
	want := clone(c)
	want.Buf[0].Val, want.Buf[0].Done = 3, true
	does(t, p, c, x(0), want)
	want = clone(c)
	want.Buf[1] = api.Ent{PC: loading, Val: 10, Addr: 3, From: -1, Next: storing, Done: true, Known: true}
	does(t, p, c, x(1), want, api.Obs{Kind: api.BLoad, At: 3})
	// r0 is below r2: it goes to 2, where it was guessed that it goes on.
	c = at(moving, begun(branching), begun(adding))
	want = clone(c)
	want.Buf = []api.Ent{{PC: branching, From: -1, Next: storing, Done: true}}
	want.State.PC = storing
	does(t, p, c, x(0), want, api.Obs{Kind: api.BJump, At: storing})
	c = at(moving, begun(returning))
	want = clone(c)
	want.Buf[0].Next, want.Buf[0].Done, want.State.PC = 3, true, 3
	does(t, p, c, x(0), want, api.Obs{Kind: api.BJump, At: 3})
}

// 17.1: the N-th's address is told, and observed; the load that passed it by is dropped.
func TestDoAddr(t *testing.T) {
	p := kinds(t)
	hasty := done(loading)
	hasty.Addr = 3
	c := at(storing, begun(adding), begun(storing), begun(jumping), hasty)
	want := clone(c)
	want.Buf = want.Buf[:3]
	want.Buf[1].Addr, want.Buf[1].Known, want.State.PC = 3, true, loading
	does(t, p, c, a(1), want, api.Obs{Kind: api.BStore, At: 3})
	// Behind all cells nothing is observed.
	c = at(moving, begun(storing))
	c.State.Regs[0] = 2
	want = clone(c)
	want.Buf[0].Addr, want.Buf[0].Known, want.Buf[0].Fault = 4, true, true
	does(t, p, c, a(0), want)
}

// 17.1: the oldest is committed; nothing is observed, of a load, a store or a jump neither.
func TestDoRetire(t *testing.T) {
	p := kinds(t)
	for pc := range beyond + 1 {
		c := at(adding, done(pc), begun(moving))
		want := clone(c)
		want.Buf = want.Buf[1:]
		switch pc {
		case adding, loading, moving:
			want.State.Regs[[]int{adding: 1, loading: 2, moving: 3}[pc]] = 13
		case storing:
			want.State.Mem[2] = 13
		case calling:
			want.State.Stack = []int{5, 3, calling + 1}
		case returning:
			want.State.Stack = []int{5}
		case halting, beyond:
			want.Buf, want.Rsb, want.State.PC = nil, nil, pc
			want.End = []int{halting: api.EHalt, beyond: api.EFault}[pc]
		}
		does(t, p, c, commit, want)
	}
}

// 17.1: a DRetire of another N than 0 is none, whatever may be committed.
func TestRetireOnlyFirst(t *testing.T) {
	p := kinds(t)
	for pc := range beyond + 1 {
		c := at(adding, slices.Repeat([]api.Ent{done(pc)}, 5)...)
		for _, n := range oddNumbers {
			if d := (api.Dir{Kind: api.DRetire, N: n}); n != 0 {
				cannot(t, p, c, d)
			}
		}
	}
}

// 17.1: what is of another Kind can't be said, whatever its N.
func TestOtherKinds(t *testing.T) {
	p := kinds(t)
	for _, kind := range oddNumbers {
		if kind >= api.DFetch && kind <= api.DRetire {
			continue
		}
		for _, n := range oddNumbers {
			for _, c := range []api.Conf{at(adding), at(adding, done(adding)), at(adding, begun(storing)), {}} {
				cannot(t, p, c, api.Dir{Kind: kind, N: n})
			}
		}
	}
}

// 17.1: where there is no N-th, or no such guess, it can't be said.
func TestNoSuch(t *testing.T) {
	p := kinds(t)
	for _, n := range oddNumbers {
		if n >= 0 && n < 3 {
			continue
		}
		c := at(adding, begun(storing), begun(storing), begun(storing))
		cannot(t, p, c, f(n))
		cannot(t, p, c, x(n))
		cannot(t, p, c, a(n))
		// The room behind the list does not count.
		c.Buf = slices.Repeat(c.Buf, 8)[:3]
		cannot(t, p, c, x(n))
		cannot(t, p, c, a(n))
	}
}

// someLines are n instructions made at random, and labels for each and behind all.
func someLines(r *rand.Rand, w, n int) []string {
	reg := func() string { return fmt.Sprintf("r%d", r.Intn(4)) }
	val := func() string {
		if r.Intn(3) == 0 {
			return fmt.Sprint(r.Intn(1 << w))
		}
		return reg()
	}
	label := func() string { return fmt.Sprintf("l%d", r.Intn(n+1)) }
	ops := []string{"add", "sub", "and", "or", "xor", "shl", "shr", "mul", "lt", "eq"}
	var lines []string
	for i := range n {
		lines = append(lines, fmt.Sprintf("l%d:", i), []func() string{
			func() string { return fmt.Sprintf("%s %s, %s, %s", ops[r.Intn(len(ops))], reg(), val(), val()) },
			func() string { return fmt.Sprintf("mov %s, %s", reg(), val()) },
			func() string { return fmt.Sprintf("cmov %s, %s, %s", reg(), val(), val()) },
			func() string { return fmt.Sprintf("load %s, [%s + %s]", reg(), val(), val()) },
			func() string { return fmt.Sprintf("load %s, [%s + 0]", reg(), val()) },
			func() string { return fmt.Sprintf("store [%s + %s], %s", val(), val(), reg()) },
			func() string { return fmt.Sprintf("store [%s + 0], %s", val(), reg()) },
			func() string { return fmt.Sprintf("br lt %s, %s, %s", val(), val(), label()) },
			func() string { return fmt.Sprintf("br eq %s, %s, %s", val(), val(), label()) },
			func() string { return "ind " + val() },
			func() string { return "jmp " + label() },
			func() string { return "call " + label() },
			func() string { return "call " + label() },
			func() string { return "ret" },
			func() string { return "ret" },
			func() string { return "fence" },
			func() string { return "halt" },
		}[r.Intn(17)]())
	}
	return append(lines, fmt.Sprintf("l%d:", n))
}

func someProg(t *testing.T, r *rand.Rand) api.Prog {
	w := 1 + r.Intn(3)
	cells := []int{1 + r.Intn(1<<w), 1 << w, 1 << w}[r.Intn(3)]
	head := []string{fmt.Sprintf("width %d", w), fmt.Sprintf("window %d", max(1, 6-r.Intn(8))), "public r0", "secret r1", fmt.Sprintf("public a %d", cells)}
	return read(t, append(head, someLines(r, w, 3+r.Intn(16))...)...)
}

func someState(r *rand.Rand, p api.Prog) api.State {
	s := api.State{Mem: make([]int, arch.Cells(p)), PC: r.Intn(len(p.Ins) + 1)}
	for i := range s.Regs {
		s.Regs[i] = r.Intn(1 << p.W)
	}
	for i := range s.Mem {
		s.Mem[i] = r.Intn(1 << p.W)
	}
	for range r.Intn(5) {
		s.Stack = append(s.Stack, r.Intn(len(p.Ins)+1))
	}
	return s
}

// someConf is a machine as no saying makes it: its numbers are within their bounds, and that is all.
func someConf(r *rand.Rand, p api.Prog) api.Conf {
	c := api.Conf{State: someState(r, p)}
	c.State.PC -= r.Intn(2)
	for i := range r.Intn(7) {
		e := api.Ent{PC: r.Intn(len(p.Ins) + 1), Val: r.Intn(1 << p.W), Addr: r.Intn(1 << p.W), From: r.Intn(i+1) - 1, Next: r.Intn(len(p.Ins)+2) - 1}
		// Two of three fences are left out: behind them nothing can be done.
		for r.Intn(3) > 0 && seqm.At(p, e.PC).Kind == api.IFence {
			e.PC = r.Intn(len(p.Ins) + 1)
		}
		e.Done, e.Fault = r.Intn(3) > 0, r.Intn(8) == 0
		e.Known = r.Intn(2) == 0 || e.Done && seqm.At(p, e.PC).Kind == api.ILoad
		c.Buf = append(c.Buf, e)
	}
	for range r.Intn(3) {
		c.Rsb = append(c.Rsb, r.Intn(len(p.Ins)+1))
	}
	if r.Intn(20) == 0 {
		c.End = 1 + r.Intn(2)
	}
	return c
}

// below is what the layer below comes to by d, and whether it says that it can.
func below(p api.Prog, c api.Conf, d api.Dir) (next api.Conf, seen []api.Obs, ok, can bool) {
	switch d.Kind {
	case 1:
		next, ok = fetc.Fetch(p, c, d.N)
		can = ok
	case 2:
		next, seen, ok = exec.Do(p, c, d.N)
		can = exec.Can(p, c, d.N)
	case 3:
		next, seen, ok = exec.Addr(p, c, d.N)
		can = exec.CanAddr(p, c, d.N)
	case 4:
		if d.N == 0 {
			next, ok = reti.Do(p, c)
			can = reti.Can(p, c)
		}
	}
	return next, seen, ok, can
}

// 17.1: of any machine whose numbers are within their bounds all three answer as the layers below do, and All is what of all that is near can be, rising.
func TestAsBelow(t *testing.T) {
	r := rand.New(rand.NewSource(17))
	tried := map[int]int{}
	for range 3000 {
		p := someProg(t, r)
		for range 6 {
			c := someConf(r, p)
			was := clone(c)
			var all []api.Dir
			for _, d := range near() {
				want, seen, can, says := below(p, c, d)
				if got := Can(p, c, d); got != can || got != says {
					t.Fatalf("%v: Can(%v, %v) = %v", p, c, d, got)
				}
				if got, obs, ok := Do(p, c, d); ok != can || !equal(got, want) || !slices.Equal(obs, seen) || !ok && !nothing(got) {
					t.Fatalf("%v: Do(%v, %v) = %v, %v, %v, want %v, %v, %v", p, c, d, got, obs, ok, want, seen, can)
				}
				if can {
					tried[d.Kind]++
					all = append(all, d)
				}
			}
			got := All(p, c)
			if !slices.Equal(got, all) || !slices.IsSortedFunc(got, order) {
				t.Fatalf("%v: All(%v) = %v, want %v", p, c, got, all)
			}
			if !equal(c, was) {
				t.Fatal("changed", was, c)
			}
		}
	}
	for kind := api.DFetch; kind <= api.DRetire; kind++ {
		if tried[kind] < 1000 {
			t.Error("too little was tried of", kind, tried[kind])
		}
	}
}

// order is how Dirs are in order, each once: of two that are the same the first is not below.
func order(a, b api.Dir) int {
	if Less(a, b) {
		return -1
	}
	return 1
}

// 17.1: what is sorted by Less is sorted by Kind, then by N.
func TestSorted(t *testing.T) {
	r := rand.New(rand.NewSource(171))
	for range 500 {
		l := make([]api.Dir, r.Intn(40))
		for i := range l {
			l[i] = api.Dir{Kind: r.Intn(6), N: r.Intn(8)}
		}
		want := slices.Clone(l)
		slices.SortFunc(want, func(a, b api.Dir) int { return cmp.Or(cmp.Compare(a.Kind, b.Kind), cmp.Compare(a.N, b.N)) })
		slices.SortFunc(l, func(a, b api.Dir) int {
			switch {
			case Less(a, b):
				return -1
			case Less(b, a):
				return 1
			}
			return 0
		})
		if !slices.Equal(l, want) {
			t.Fatal(l, want)
		}
	}
}

// machine is told what to do by Dirs alone. What is done one by one goes along, and s is what that has come to.
type machine struct {
	p     api.Prog
	c     api.Conf
	s     api.State
	steps int
}

// say says d, and tells what is wrong with what that leaves.
func (m *machine) say(d api.Dir) string {
	c, seen, ok := Do(m.p, m.c, d)
	if !ok {
		return "can't be said"
	}
	was := m.c
	m.c = c
	if d.Kind == api.DRetire {
		return m.committed(was, seen)
	}
	got := c.State
	got.PC = was.State.PC
	if !equalStates(got, was.State) || c.End != 0 {
		return "commits, where nothing is committed"
	}
	if len(seen) > 1 || len(seen) > 0 && d.Kind == api.DFetch {
		return "observes too much"
	}
	return ""
}

// committed holds what was committed against a step of one by one.
func (m *machine) committed(was api.Conf, seen []api.Obs) string {
	want, _, end := seqm.Step(m.p, m.s)
	m.s = want
	m.steps++
	got := m.c.State
	if end == 0 {
		// What is to be fetched next may be guessed; one by one goes on where the oldest went.
		got.PC = was.Buf[0].Next
	}
	if m.c.End != end || !equalStates(got, want) {
		return fmt.Sprintf("commits %v, %d, and one by one %v, %d", got, m.c.End, want, end)
	}
	if len(seen) > 0 {
		return "observes what is committed"
	}
	return ""
}

// choices are all that can be said, which is something just if the machine is not final.
func (m *machine) choices() ([]api.Dir, string) {
	l := All(m.p, m.c)
	if conf.Final(m.c) != (len(l) == 0) {
		return nil, fmt.Sprintf("%v can be said, and Final is %v", l, conf.Final(m.c))
	}
	return l, ""
}

// 17.2: whatever is said, as long as it is not final there is something to say, and what is committed is what the program does one by one, to the same end.
func TestSaysOn(t *testing.T) {
	r := rand.New(rand.NewSource(172))
	ends, steps := map[int]int{}, 0
	for range 6000 {
		p := someProg(t, r)
		s := someState(r, p)
		m := &machine{p: p, c: conf.Begin(s), s: s}
		for range 400 {
			l, what := m.choices()
			if what == "" && len(l) > 0 {
				what = m.say(l[r.Intn(len(l))])
			}
			if what != "" {
				t.Fatalf("%v: from %v: %v: %s", p, s, m.c, what)
			}
		}
		got, _, done, end := seqm.Run(p, s, m.steps)
		if done != m.steps || end != m.c.End || !equalStates(got, m.s) {
			t.Fatalf("%v: from %v: %d steps come to %v, %d", p, s, m.steps, m.c, m.c.End)
		}
		ends[end]++
		steps += m.steps
	}
	if steps < 20000 || ends[0] < 200 || ends[api.EHalt] < 200 || ends[api.EFault] < 200 {
		t.Error("too little was tried", steps, ends)
	}
}

// 17.2: who says always the last of all that can be said, which is to commit where that can be, does the program.
func TestLast(t *testing.T) {
	r := rand.New(rand.NewSource(173))
	for range 3000 {
		p := someProg(t, r)
		s := someState(r, p)
		m := &machine{p: p, c: conf.Begin(s), s: s}
		for range 60 {
			l, what := m.choices()
			if what == "" && len(l) > 0 {
				what = m.say(l[len(l)-1])
			}
			if what != "" {
				t.Fatalf("%v: from %v: %v: %s", p, s, m.c, what)
			}
		}
		// Each instruction is fetched, done, told where it stores, and committed: no more than that ahead of the next one.
		if m.steps < 15 && !conf.Final(m.c) {
			t.Fatalf("%v: from %v: %d steps, %v", p, s, m.steps, m.c)
		}
	}
}

// 17.2: nothing can be said for ever without a fetch: each that is under way is done, told and committed once.
func TestNeedsFetch(t *testing.T) {
	r := rand.New(rand.NewSource(174))
	for range 3000 {
		p := someProg(t, r)
		s := someState(r, p)
		m := &machine{p: p, c: conf.Begin(s), s: s}
		left := 0
		for range 200 {
			l, what := m.choices()
			rest := slices.DeleteFunc(slices.Clone(l), func(d api.Dir) bool { return d.Kind == api.DFetch })
			if len(l) > len(rest) && (len(rest) == 0 || r.Intn(4) == 0) {
				left += 3
				rest = l[:len(l)-len(rest)]
			} else {
				left--
			}
			if what == "" && len(l) > 0 {
				what = m.say(rest[r.Intn(len(rest))])
			}
			if what != "" || len(l) > 0 && left < 0 {
				t.Fatalf("%v: from %v: %v: %s, %d", p, s, m.c, what, left)
			}
		}
	}
}

// everyWay says all that can be said to p, from s on, and tells how many machines there are.
func everyWay(t *testing.T, p api.Prog, s api.State) int {
	t.Helper()
	queue := []machine{{p: p, c: conf.Begin(s), s: s}}
	seen := map[string]int{}
	for len(queue) > 0 {
		m := queue[0]
		queue = queue[1:]
		// What has been committed belongs to what a machine is: the same one may be come to by other steps.
		key := string(conf.Code(m.c)) + "|" + string(arch.Code(m.s))
		if seen[key] > 0 {
			continue
		}
		seen[key] = 1
		l, what := m.choices()
		for _, d := range l {
			next := m
			if what == "" {
				what = next.say(d)
			}
			queue = append(queue, next)
		}
		if what != "" {
			t.Fatalf("%v: from %v: %v: %s", p, s, m.c, what)
		}
	}
	return len(seen)
}

// 17.2: of small programs, all that can be said is said, in whatever order: to what is not final there is something to say, and nothing but what one by one comes to is committed.
func TestEveryWay(t *testing.T) {
	head := []string{"width 2", "window 4", "public r0", "secret r1", "public a 2", "secret k 1"}
	for i, lines := range [][]string{
		{"br lt r0, 2, in", "halt", "in:", "load r2, [r0 + 0]", "load r3, [r2 + 0]", "halt"},
		{"br lt r0, 2, in", "halt", "in:", "fence", "load r2, [r0 + 0]", "store [r2 + 0], r1"},
		{"store [r0 + 0], r1", "load r2, [0 + 0]", "store [r2 + 0], r2", "load r3, [0 + 1]", "halt"},
		{"add r0, r0, 1", "cmov r2, r0, r1", "ind r2", "halt"},
		{"call f", "call f", "halt", "f:", "add r2, r2, r1", "ret"},
		{"f:", "call f", "ret"},
		{"ret", "halt"},
		{"again:", "sub r0, r0, 1", "store [r0 + 0], r0", "br lt 0, r0, again", "jmp out", "out:"},
	} {
		p := read(t, append(slices.Clone(head), lines...)...)
		sum := 0
		// A fifth of all beginnings: five places of four words each.
		for n := 0; n < 1<<10; n += 5 {
			s, ok := arch.Start(p, []int{n, n >> 2, n >> 4, n >> 6, n >> 8})
			if !ok {
				t.Fatal("Start is false")
			}
			sum += everyWay(t, p, s)
		}
		if sum < 3000 {
			t.Error("too little was tried of", i, sum)
		}
	}
}

// oddProgs are programs that can't be.
func oddProgs() []api.Prog {
	l := []api.Prog{{}, {W: 4}, {Window: 9}, {W: math.MinInt, Window: math.MaxInt, Mems: []api.Mem{{N: math.MaxInt}}}}
	for _, w := range []int{-1, 0, 4, 17} {
		for _, n := range oddNumbers {
			for _, reg := range []bool{true, false} {
				v := api.Val{Reg: reg, N: n}
				p := api.Prog{W: w, Regs: [4]int{n, n, n, n}, Window: max(n, 6), Fuel: n, Mems: []api.Mem{{N: n}, {N: n}}}
				for kind := -1; kind <= 13; kind++ {
					p.Ins = append(p.Ins, api.Ins{Kind: kind, Op: n, D: n, A: v, B: v, Target: n})
				}
				l = append(l, p, api.Prog{W: w, Window: n, Ins: []api.Ins{{Kind: n, Target: n}}})
			}
		}
	}
	return l
}

// oddConf is a machine of n, with count of all, whose Ents are at pc and pc one less.
func oddConf(n, pc, count int) api.Conf {
	l := slices.Repeat([]int{n}, count)
	ents := []api.Ent{{PC: pc - 1, Val: n, Addr: n, From: n, Next: n, Done: count%2 == 0, Known: count%3 == 0}, {PC: pc, Val: n, Addr: n, From: n, Next: n}}
	return api.Conf{State: api.State{Regs: [4]int{n, n, n, n}, Mem: l, Stack: l, PC: n}, Buf: slices.Repeat(ents, count%4), Rsb: l}
}

// 17.3: no call panics, and each ends, whatever it is given; what All tells can be done, and Do can what Can says and nothing else, beside which it tells nothing.
func TestNoPanic(t *testing.T) {
	said := map[int]int{}
	for _, p := range oddProgs() {
		for pc := range 16 {
			for k, n := range oddNumbers {
				c := oddConf(n, pc, k%7)
				// Few have a PC from which anything can be fetched, otherwise.
				if k%2 == 0 {
					c.State.PC = pc
				}
				if k%6 == 5 {
					c.End = n
				}
				all := All(p, c)
				odd := oddNumbers[(k+pc)%len(oddNumbers)]
				for _, d := range append(slices.Clone(all), f(odd), x(odd), a(odd), api.Dir{Kind: api.DRetire, N: odd}, api.Dir{Kind: odd, N: n}, api.Dir{Kind: n, N: odd}) {
					got, seen, ok := Do(p, c, d)
					if ok != Can(p, c, d) || ok != slices.Contains(all, d) || !ok && (!nothing(got) || len(seen) > 0) {
						t.Fatal(p, c, d, got, seen, ok)
					}
					if ok {
						said[d.Kind]++
					}
				}
			}
		}
	}
	for kind := api.DFetch; kind <= api.DRetire; kind++ {
		if said[kind] < 500 {
			t.Error("too little was said of", kind, said[kind])
		}
	}
}

// 17.3: whatever is said on and on to a program that can't be, no call panics.
func TestNoPanicOn(t *testing.T) {
	r := rand.New(rand.NewSource(175))
	for _, p := range oddProgs() {
		for _, n := range oddNumbers {
			c := conf.Begin(api.State{Regs: [4]int{n, 1, n, 2}, Mem: []int{n}, PC: r.Intn(16)})
			for range 20 {
				l := All(p, c)
				if len(l) == 0 {
					break
				}
				d := l[r.Intn(len(l))]
				next, _, ok := Do(p, c, d)
				if !ok {
					t.Fatal(p, c, d)
				}
				c = next
			}
		}
	}
}

// 17.3: more than a window holds, and more than a program may be, ends, too.
func TestMuch(t *testing.T) {
	p := kinds(t)
	c := at(adding, slices.Repeat([]api.Ent{begun(storing)}, 300)...)
	c.State.Stack, c.Rsb = make([]int, 50000), make([]int, 50000)
	var want []api.Dir
	for _, d := range []func(int) api.Dir{x, a} {
		for i := range 300 {
			want = append(want, d(i))
		}
	}
	if got := All(p, c); !slices.Equal(got, want) {
		t.Error(got)
	}
	p.Ins = slices.Repeat([]api.Ins{{Kind: api.IInd, A: api.Val{Reg: true}}}, 5000)
	if got := All(p, at(0)); !slices.Equal(got, fetches(5001)) {
		t.Error(len(got))
	}
}

// overlap tells whether a and b share any memory, their spare room too.
func overlap[A, B any](a []A, b []B) bool {
	if cap(a) == 0 || cap(b) == 0 {
		return false
	}
	from, to := uintptr(unsafe.Pointer(unsafe.SliceData(a))), uintptr(unsafe.Pointer(unsafe.SliceData(b)))
	return from < to+uintptr(cap(b))*unsafe.Sizeof(b[:1][0]) && to < from+uintptr(cap(a))*unsafe.Sizeof(a[:1][0])
}

// spoil writes over all that a Conf holds, spare room too.
func spoil(c api.Conf) {
	for _, l := range [][]int{c.State.Mem, c.State.Stack, c.Rsb} {
		for i := range l[:cap(l)] {
			l[:cap(l)][i] = 77
		}
	}
	for i := range c.Buf[:cap(c.Buf)] {
		c.Buf[:cap(c.Buf)][i] = api.Ent{PC: 77}
	}
}

// roomy is a machine with e first whose lists have room behind them, and the whole of these.
func roomy(e api.Ent, n int) (api.Conf, api.Conf) {
	whole := at(branching, e, begun(adding), done(loading), begun(storing))
	whole.State.Stack, whole.Rsb = []int{5, 6, 7, 8}, []int{9, 10, 11, 12}
	c := whole
	c.State.Mem, c.State.Stack, c.Buf, c.Rsb = c.State.Mem[:n], c.State.Stack[:n], c.Buf[:n], c.Rsb[:n]
	return c, whole
}

// apart tells what is wrong, if lists of a share memory with each other, or with lists of others.
func apart(t *testing.T, a api.Conf, others ...api.Conf) {
	t.Helper()
	ints := [][]int{a.State.Mem, a.State.Stack, a.Rsb}
	for _, c := range others {
		ints = append(ints, c.State.Mem, c.State.Stack, c.Rsb)
		if overlap(a.Buf, c.Buf) {
			t.Error("shared Buf")
		}
	}
	for i := range 3 {
		for k, l := range ints {
			if i != k && overlap(ints[i], l) {
				t.Error("shared", i, k)
			}
		}
	}
}

// DOC.md's rule 3: what is handed in is not changed, nor the spare room behind its lists; what is answered is new memory, and no two of its lists share any.
func TestMemory(t *testing.T) {
	p, kept := kinds(t), kinds(t)
	said := map[int]int{}
	for pc := range beyond {
		for n := 1; n < 5; n++ {
			for _, e := range []api.Ent{begun(pc), done(pc)} {
				c, whole := roomy(e, n)
				_, was := roomy(e, n)
				for _, d := range All(p, c) {
					said[d.Kind]++
					got, seen, _ := Do(p, c, d)
					again, obs, _ := Do(p, c, d)
					apart(t, got, again, whole)
					if overlap(seen, obs) {
						t.Error("shared observations", pc, d)
					}
					spoil(got)
					for i := range seen {
						seen[i] = api.Obs{}
					}
					if !equal(whole, was) || !reflect.DeepEqual(p, kept) {
						t.Fatal("changed", pc, n, d, whole)
					}
					if third, obs3, _ := Do(p, c, d); !equal(third, again) || !slices.Equal(obs, obs3) {
						t.Error("kept", pc, n, d)
					}
				}
			}
		}
	}
	for kind := api.DFetch; kind <= api.DRetire; kind++ {
		if said[kind] < 10 {
			t.Error("too little was said of", kind, said[kind])
		}
	}
}

// DOC.md's rule 3: what All answers is new memory each time.
func TestAllMemory(t *testing.T) {
	p := kinds(t)
	c := at(going, begun(storing), begun(adding))
	first, second := All(p, c), All(p, c)
	if overlap(first, second) {
		t.Error("shared")
	}
	for i := range first[:cap(first)] {
		first[:cap(first)][i] = api.Dir{}
	}
	want := append(fetches(beyond+1), x(0), x(1), a(0))
	if third := All(p, c); !slices.Equal(second, want) || !slices.Equal(third, want) {
		t.Error(second, third)
	}
}

// DOC.md's rule 3: nothing is kept, so that what was handed in may be changed and asked again.
func TestNotKept(t *testing.T) {
	p, c := kinds(t), at(branching, begun(storing), begun(adding))
	first, _, _ := Do(p, c, x(1))
	want := clone(first)
	c.State.Mem[3], c.State.Stack[0], c.Rsb[0], c.Buf[0] = 1, 1, 1, done(adding)
	if !equal(first, want) {
		t.Error("what was answered changes", first)
	}
	only(t, p, c, f(0), f(1), x(1), commit)
	p.Ins[branching] = p.Ins[adding]
	only(t, p, c, f(0), x(1), commit)
}

// DOC.md's rule 1: nil and an empty list are the same.
func TestNil(t *testing.T) {
	p := kinds(t)
	for _, c := range []api.Conf{{}, {State: api.State{Mem: []int{}, Stack: []int{}}, Buf: []api.Ent{}, Rsb: []int{}}} {
		only(t, p, c, f(0))
		does(t, p, c, f(0), api.Conf{State: api.State{PC: 1}, Buf: []api.Ent{begun(adding)}})
		c.State.PC = returning
		only(t, p, c, fetches(beyond+1)...)
	}
}
