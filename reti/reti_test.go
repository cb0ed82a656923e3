package reti

import (
	"fmt"
	"math"
	"math/rand"
	"reflect"
	"slices"
	"strings"
	"testing"
	"unsafe"

	"augury/api"
	"augury/arch"
	"augury/conf"
	"augury/exec"
	"augury/fetc"
	"augury/prog"
	"augury/seqm"
)

func read(t *testing.T, lines ...string) api.Prog {
	t.Helper()
	p, line, at, ok := prog.Parse(strings.Join(lines, "\n"))
	if !ok {
		t.Fatalf("Parse(%q) is false at %d, %d", lines, line, at)
	}
	return p
}

// Where kinds has what it has; beyond its end is no instruction.
const (
	adding = iota
	loading
	storing
	moving
	branching
	jumping
	going
	calling
	returning
	fencing
	halting
	beyond
)

// kinds is a program of each kind of instruction, with the greatest window.
func kinds(t *testing.T) api.Prog {
	return read(t, "width 4", "window 6", "public a 4",
		"add r1, r0, r2", "two:", "load r2, [r0 + r2]", "three:", "store [r0 + r2], r1", "cmov r3, r0, r2",
		"br lt r0, r2, three", "jmp two", "ind r0", "call two", "ret", "fence", "halt")
}

var oddNumbers = []int{math.MinInt, math.MinInt + 1, -(1 << 32), -17, -2, -1, 0, 1, 2, 3, 4, 5, 6, 15, 16, 17, 1 << 31, 1 << 32, math.MaxInt - 1, math.MaxInt}

// way is a machine with l under way, whose numbers can be told from each other.
func way(l ...api.Ent) api.Conf {
	return api.Conf{State: api.State{Regs: [4]int{1, 9, 2, 15}, Mem: []int{4, 6, 8, 10}, Stack: []int{5, 3}, PC: 10}, Buf: l, Rsb: []int{7, 4}}
}

// all is what is at pc, with all done that can be: Val 13, Addr 2.
func all(pc int) api.Ent {
	return api.Ent{PC: pc, Val: 13, Addr: 2, From: -1, Next: pc + 1, Done: true, Known: true}
}

// faulty is e with a Fault.
func faulty(e api.Ent) api.Ent {
	e.Fault = true
	return e
}

// untold is e, not Known.
func untold(e api.Ent) api.Ent {
	e.Known = false
	return e
}

// late is e, not Done.
func late(e api.Ent) api.Ent {
	e.Done = false
	return e
}

// from is e with a From.
func from(e api.Ent, n int) api.Ent {
	e.From = n
	return e
}

func equalStates(a, b api.State) bool {
	return a.Regs == b.Regs && slices.Equal(a.Mem, b.Mem) && slices.Equal(a.Stack, b.Stack) && a.PC == b.PC
}

// equal has nil and an empty list as the same.
func equal(a, b api.Conf) bool {
	return equalStates(a.State, b.State) && slices.Equal(a.Buf, b.Buf) && slices.Equal(a.Rsb, b.Rsb) && a.End == b.End
}

// nothing is the zero Conf.
func nothing(c api.Conf) bool {
	return reflect.DeepEqual(c, api.Conf{})
}

func clone(c api.Conf) api.Conf {
	c.State.Mem, c.State.Stack, c.Buf, c.Rsb = slices.Clone(c.State.Mem), slices.Clone(c.State.Stack), slices.Clone(c.Buf), slices.Clone(c.Rsb)
	return c
}

// ended is c at its end.
func ended(c api.Conf, end, pc int) api.Conf {
	c = clone(c)
	c.End, c.State.PC, c.Buf, c.Rsb = end, pc, nil, nil
	return c
}

// popped is c without its oldest, which leaves no From behind it.
func popped(c api.Conf) api.Conf {
	c = clone(c)
	c.Buf = c.Buf[1:]
	return c
}

// does tells what is wrong, if the oldest can't be committed, or c comes to anything else than want.
func does(t *testing.T, p api.Prog, c, want api.Conf) {
	t.Helper()
	was := clone(c)
	if !Can(p, c) {
		t.Errorf("Can(%v) is false", c)
	}
	if got, ok := Do(p, c); !ok || !equal(got, want) {
		t.Errorf("Do(%v) = %v, %v, want %v", c, got, ok, want)
	}
	if !equal(c, was) {
		t.Errorf("Do(%v) changes what is handed in", was)
	}
}

// cannot tells what is wrong, if the oldest can be committed, or anything is told beside the false.
func cannot(t *testing.T, p api.Prog, c api.Conf) {
	t.Helper()
	if got, ok := Do(p, c); ok || Can(p, c) || !nothing(got) {
		t.Errorf("Do(%v) = %v, %v", c, got, ok)
	}
}

// 16.1, the example: of none, none can be committed; the room behind the list does not count.
func TestNone(t *testing.T) {
	p := kinds(t)
	cannot(t, p, api.Conf{})
	cannot(t, p, way())
	c := way(all(adding))
	c.Buf = c.Buf[:0]
	cannot(t, p, c)
}

// 16.1: what is Done can be committed, an IStore that is Known, too, a fence in any case; nothing else of it counts.
func TestWhich(t *testing.T) {
	p := kinds(t)
	for pc := -2; pc < beyond+3; pc++ {
		for flags := range 8 {
			e := all(pc)
			e.Done, e.Known, e.Fault = flags&1 != 0, flags&2 != 0, flags&4 != 0
			can := e.Done
			switch pc {
			case fencing:
				can = true
			case storing:
				can = e.Done && e.Known
			}
			c := way(e, all(adding))
			if Can(p, c) != can {
				t.Errorf("Can(%v) is %v", c, !can)
			}
			if !can {
				cannot(t, p, c)
			} else if got, ok := Do(p, c); !ok || nothing(got) {
				t.Errorf("Do(%v) = %v, %v", c, got, ok)
			}
		}
	}
}

// 16.1: at its end nothing is committed.
func TestEnded(t *testing.T) {
	p := kinds(t)
	for _, end := range oddNumbers {
		for pc := range beyond + 1 {
			c := way(all(pc))
			c.End = end
			if Can(p, c) != (end == 0) {
				t.Error(pc, end)
			}
			if end != 0 {
				cannot(t, p, c)
			}
		}
	}
}

// 16.1: the first one alone counts: what is behind it, done or not, waits.
func TestOldestOnly(t *testing.T) {
	p := kinds(t)
	for pc := range beyond + 1 {
		cannot(t, p, way(late(all(adding)), all(pc)))
		cannot(t, p, way(untold(all(storing)), all(pc)))
		for _, e := range []api.Ent{all(pc), late(all(pc)), untold(all(pc)), faulty(all(pc))} {
			c := way(all(jumping), e, all(halting))
			does(t, p, c, popped(c))
		}
	}
}

// 16.1: an IAlu, ILoad, ICmov puts its Val in D, and in nothing else, whatever the registers hold.
func TestRegister(t *testing.T) {
	for d := range 4 {
		for _, line := range []string{"add r%d, r1, 1", "mul r%d, 3, r0", "lt r%d, r2, r3", "mov r%d, 6", "load r%d, [r1 + 1]", "cmov r%d, r1, r2", "cmov r%d, 0, 3"} {
			p := read(t, "width 4", "window 6", "public a 4", fmt.Sprintf(line, d))
			for val := range 16 {
				e := all(0)
				e.Val = val
				c := way(e, late(all(0)))
				want := popped(c)
				want.State.Regs[d] = val
				does(t, p, c, want)
			}
		}
	}
}

// 16.1: a load is committed with its Val, whatever is in memory by now, and wherever that came from; its Addr is nothing that is put anywhere.
func TestLoad(t *testing.T) {
	p := kinds(t)
	for _, n := range []int{-1, 0, 1} {
		c := way(from(all(loading), n))
		want := popped(c)
		want.State.Regs[2] = 13
		does(t, p, c, want)
		c = way(from(untold(all(loading)), n))
		does(t, p, c, want)
	}
}

// 16.1: an IStore puts its Val at its Addr, and nowhere else, whatever its registers hold by now.
func TestStore(t *testing.T) {
	p := kinds(t)
	for addr := range 4 {
		for val := range 16 {
			e := all(storing)
			e.Addr, e.Val = addr, val
			c := way(e, late(all(adding)))
			want := popped(c)
			want.State.Mem[addr] = val
			does(t, p, c, want)
		}
	}
}

// 16.1: an ICall puts its PC and 1 on the Stack, behind what is there.
func TestCall(t *testing.T) {
	p := kinds(t)
	for n := range 4 {
		c := way(all(calling), all(loading))
		c.State.Stack = []int{3, 1, 9}[:n]
		want := popped(c)
		want.State.Stack = append(want.State.Stack, calling+1)
		does(t, p, c, want)
	}
	// The one behind the last instruction is a place to return to.
	q := read(t, "width 4", "f:", "call f")
	c := way(all(0))
	want := popped(c)
	want.State.Stack = []int{5, 3, 1}
	does(t, q, c, want)
}

// 16.1: an IRet takes the last one of the Stack, wherever it went.
func TestRet(t *testing.T) {
	p := kinds(t)
	for n := 1; n < 5; n++ {
		for _, next := range []int{0, 3, 9, beyond} {
			e := all(returning)
			e.Next = next
			c := way(e, all(adding))
			c.State.Stack = []int{3, 1, 9, 0}[:n]
			want := popped(c)
			want.State.Stack = want.State.Stack[:n-1]
			does(t, p, c, want)
		}
	}
}

// 16.1: of a jump, a branch and a fence nothing is committed: each is popped, and that is all.
func TestNothingElse(t *testing.T) {
	p := kinds(t)
	for _, pc := range []int{branching, jumping, going, fencing} {
		for _, next := range []int{0, 5, beyond} {
			e := all(pc)
			e.Next = next
			c := way(e, all(adding), late(all(storing)))
			does(t, p, c, popped(c))
		}
	}
	c := way(late(untold(all(fencing))), all(adding))
	does(t, p, c, popped(c))
}

// 16.1: where it goes on, what is to be fetched next and the return buffer stay as they are.
func TestStays(t *testing.T) {
	p := kinds(t)
	for pc := range halting {
		for _, next := range []int{-1, 0, 7, beyond} {
			for n := range 3 {
				c := way(all(pc))
				c.State.PC, c.Rsb = next, []int{7, 4}[:n]
				if got, ok := Do(p, c); !ok || got.State.PC != next || !slices.Equal(got.Rsb, c.Rsb) || got.End != 0 || len(got.Buf) != 0 {
					t.Errorf("Do(%v) = %v, %v", c, got, ok)
				}
			}
		}
	}
}

// 16.1: it is popped as robq tells it: what is left stays in its order, and what came from it comes from none any more.
func TestPopped(t *testing.T) {
	p := kinds(t)
	c := way(all(jumping), from(all(loading), 0), late(all(storing)), from(all(loading), 2), faulty(all(calling)), from(late(all(loading)), -1))
	want := popped(c)
	want.Buf = []api.Ent{from(all(loading), -1), late(all(storing)), from(all(loading), 1), faulty(all(calling)), from(late(all(loading)), -1)}
	does(t, p, c, want)
}

// 16.1: with a Fault the machine ends with EFault, of whatever kind it is, a halt, too: nothing of it is committed, nothing is under way, the return buffer is empty, and PC is its own.
func TestFault(t *testing.T) {
	p := kinds(t)
	for pc := -2; pc < beyond+3; pc++ {
		for _, behind := range [][]api.Ent{nil, {all(adding)}, {late(all(adding)), all(halting), faulty(all(loading))}} {
			c := way(append([]api.Ent{faulty(all(pc))}, behind...)...)
			does(t, p, c, ended(c, api.EFault, pc))
		}
	}
	cannot(t, p, way(faulty(late(all(loading)))))
	cannot(t, p, way(faulty(late(all(storing)))))
	cannot(t, p, way(faulty(untold(all(storing)))))
}

// 16.1: an IHalt ends it with EHalt, and there is nothing behind it any more; PC is its own, though nothing was left to fetch.
func TestHalt(t *testing.T) {
	p := kinds(t)
	for _, next := range []int{-1, 0, 3} {
		for _, behind := range [][]api.Ent{nil, {all(adding)}, {faulty(all(loading))}} {
			c := way(append([]api.Ent{all(halting)}, behind...)...)
			c.State.PC = next
			does(t, p, c, ended(c, api.EHalt, halting))
		}
	}
	cannot(t, p, way(late(all(halting))))
}

// 16.1: where no instruction is, is an IFault: EFault.
func TestNowhere(t *testing.T) {
	p := kinds(t)
	for _, pc := range append([]int{beyond, 31, 32}, oddNumbers...) {
		if pc < 0 || pc >= beyond {
			c := way(all(pc), all(adding))
			does(t, p, c, ended(c, api.EFault, pc))
			cannot(t, p, way(late(all(pc)), all(adding)))
		}
	}
	q := api.Prog{W: 4, Window: 1, Fuel: 50, Ins: []api.Ins{{Kind: api.IFault}}}
	c := way(all(0))
	does(t, q, c, ended(c, api.EFault, 0))
}

// 16.1: a Fault that is not the oldest ends nothing yet.
func TestFaultBehind(t *testing.T) {
	p := kinds(t)
	c := way(all(moving), faulty(all(loading)))
	want := popped(c)
	want.State.Regs[3] = 13
	does(t, p, c, want)
	does(t, p, want, ended(want, api.EFault, loading))
}

// 16.1, of machines that no fetching makes: what is no Fault is committed as the words say, as far as there is room for it.
func TestByHand(t *testing.T) {
	p := kinds(t)
	c := way(all(calling))
	c.State.Stack = []int{1, 2, 3, 4}
	want := popped(c)
	want.State.Stack = []int{1, 2, 3, 4, calling + 1}
	does(t, p, c, want)
	c = way(all(returning))
	c.State.Stack = nil
	does(t, p, c, popped(c))
	for _, addr := range oddNumbers {
		e := all(storing)
		e.Addr = addr
		c = way(e)
		want = popped(c)
		if 0 <= addr && addr < 4 {
			want.State.Mem[addr] = 13
		}
		does(t, p, c, want)
	}
}

// 16.2: a bound is passed by under way, a secret is loaded there and seen; of that nothing is committed.
func TestBoundPassedBy(t *testing.T) {
	p := read(t, "width 4", "window 6", "public a 2", "secret k 2", "br lt r0, 2, in", "halt", "in:", "load r1, [r0 + 0]", "load r2, [r1 + 0]", "halt")
	c := conf.Begin(api.State{Regs: [4]int{3, 0, 0, 0}, Mem: []int{0, 0, 1, 2}})
	for _, guess := range []int{1, 0, 0} {
		c, _ = fetc.Fetch(p, c, guess)
	}
	c, _, _ = exec.Do(p, c, 1)
	c, _, _ = exec.Do(p, c, 2)
	if len(c.Buf) != 3 || !c.Buf[1].Done || !c.Buf[2].Done {
		t.Fatal(c)
	}
	// The branch is the oldest, and not done: what was loaded waits for it.
	cannot(t, p, c)
	c, _, _ = exec.Do(p, c, 0)
	was := c.State
	c, ok := Do(p, c)
	if !ok || len(c.Buf) != 0 || !equalStates(c.State, was) {
		t.Fatal(c, ok)
	}
	c, _ = fetc.Fetch(p, c, 0)
	want := api.Conf{State: api.State{Regs: [4]int{3, 0, 0, 0}, Mem: []int{0, 0, 1, 2}, PC: 1}, End: api.EHalt}
	does(t, p, c, want)
}

// 16.2: a store that is told late is committed behind the load that passed it by, which was dropped.
func TestStorePassedBy(t *testing.T) {
	p := read(t, "width 4", "window 6", "public a 2", "store [r0 + 0], r1", "load r2, [1 + 0]", "halt")
	c := conf.Begin(api.State{Regs: [4]int{1, 3, 0, 0}, Mem: []int{0, 2}})
	for range 2 {
		c, _ = fetc.Fetch(p, c, 0)
	}
	c, _, _ = exec.Do(p, c, 1)
	c, _, _ = exec.Do(p, c, 0)
	if !c.Buf[0].Done || c.Buf[1].Val != 2 {
		t.Fatal(c)
	}
	// The store is Done, but nobody knows yet where it goes.
	cannot(t, p, c)
	c, _, _ = exec.Addr(p, c, 0)
	c, _ = fetc.Fetch(p, c, 0)
	c, _, _ = exec.Do(p, c, 1)
	if c.Buf[1].Val != 3 || c.Buf[1].From != 0 {
		t.Fatal(c)
	}
	want := popped(c)
	want.State.Mem, want.Buf[0].From = []int{0, 3}, -1
	does(t, p, c, want)
	c, _ = Do(p, c)
	want = popped(c)
	want.State.Regs[2] = 3
	does(t, p, c, want)
}

// model commits the oldest of c by a reckoning of its own; false, if it can't be.
func model(p api.Prog, c api.Conf) (api.Conf, bool) {
	if c.End != 0 || len(c.Buf) == 0 {
		return api.Conf{}, false
	}
	e, in := c.Buf[0], api.Ins{Kind: api.IFault}
	if e.PC >= 0 && e.PC < len(p.Ins) {
		in = p.Ins[e.PC]
	}
	isStore, isFence := in.Kind == api.IStore, in.Kind == api.IFence
	if !(e.Done || isFence) || isStore && !e.Known {
		return api.Conf{}, false
	}
	if isEnd := in.Kind == api.IFault || in.Kind == api.IHalt; e.Fault || isEnd {
		end := api.EFault
		if !e.Fault && in.Kind == api.IHalt {
			end = api.EHalt
		}
		return ended(c, end, e.PC), true
	}
	c = clone(c)
	c.Buf = c.Buf[1:]
	for i := range c.Buf {
		c.Buf[i].From = max(c.Buf[i].From-1, -1)
	}
	if isStore {
		c.State.Mem[e.Addr] = e.Val
	}
	if in.Kind == api.IAlu || in.Kind == api.ILoad || in.Kind == api.ICmov {
		c.State.Regs[in.D] = e.Val
	}
	if in.Kind == api.ICall {
		c.State.Stack = append(c.State.Stack, e.PC+1)
	}
	if in.Kind == api.IRet {
		c.State.Stack = c.State.Stack[:len(c.State.Stack)-1]
	}
	return c, true
}

// someLines are n instructions made at random, and labels for each and behind all.
func someLines(r *rand.Rand, w, n int) []string {
	reg := func() string { return fmt.Sprintf("r%d", r.Intn(4)) }
	val := func() string {
		if r.Intn(3) == 0 {
			return fmt.Sprint(r.Intn(1 << w))
		}
		return reg()
	}
	label := func() string { return fmt.Sprintf("l%d", r.Intn(n+1)) }
	ops := []string{"add", "sub", "and", "or", "xor", "shl", "shr", "mul", "lt", "eq"}
	var lines []string
	for i := range n {
		lines = append(lines, fmt.Sprintf("l%d:", i), []func() string{
			func() string { return fmt.Sprintf("%s %s, %s, %s", ops[r.Intn(len(ops))], reg(), val(), val()) },
			func() string { return fmt.Sprintf("mov %s, %s", reg(), val()) },
			func() string { return fmt.Sprintf("cmov %s, %s, %s", reg(), val(), val()) },
			func() string { return fmt.Sprintf("load %s, [%s + %s]", reg(), val(), val()) },
			func() string { return fmt.Sprintf("load %s, [%s + 0]", reg(), val()) },
			func() string { return fmt.Sprintf("store [%s + %s], %s", val(), val(), reg()) },
			func() string { return fmt.Sprintf("store [%s + 0], %s", val(), reg()) },
			func() string { return fmt.Sprintf("br lt %s, %s, %s", val(), val(), label()) },
			func() string { return fmt.Sprintf("br eq %s, %s, %s", val(), val(), label()) },
			func() string { return "ind " + val() },
			func() string { return "jmp " + label() },
			func() string { return "call " + label() },
			func() string { return "call " + label() },
			func() string { return "ret" },
			func() string { return "ret" },
			func() string { return "fence" },
			func() string { return "halt" },
		}[r.Intn(17)]())
	}
	return append(lines, fmt.Sprintf("l%d:", n))
}

func someProg(t *testing.T, r *rand.Rand) api.Prog {
	w := 1 + r.Intn(3)
	cells := []int{1 + r.Intn(1<<w), 1 << w, 1 << w}[r.Intn(3)]
	head := []string{fmt.Sprintf("width %d", w), fmt.Sprintf("window %d", max(1, 6-r.Intn(8))), "public r0", "secret r1", fmt.Sprintf("public a %d", cells)}
	return read(t, append(head, someLines(r, w, 3+r.Intn(16))...)...)
}

func someState(r *rand.Rand, p api.Prog) api.State {
	s := api.State{Mem: make([]int, arch.Cells(p)), PC: r.Intn(len(p.Ins) + 1)}
	for i := range s.Regs {
		s.Regs[i] = r.Intn(1 << p.W)
	}
	for i := range s.Mem {
		s.Mem[i] = r.Intn(1 << p.W)
	}
	for range r.Intn(5) {
		s.Stack = append(s.Stack, r.Intn(len(p.Ins)+1))
	}
	return s
}

// someConf is a machine as no fetching makes it: its numbers are within their bounds, a return has somewhere to go, and that is all.
func someConf(r *rand.Rand, p api.Prog) api.Conf {
	c := api.Conf{State: someState(r, p)}
	c.State.PC -= r.Intn(2)
	for i := range r.Intn(7) {
		e := api.Ent{PC: r.Intn(len(p.Ins) + 1), Val: r.Intn(1 << p.W), Addr: r.Intn(arch.Cells(p)), From: r.Intn(i+1) - 1, Next: r.Intn(len(p.Ins)+2) - 1}
		e.Done, e.Known, e.Fault = r.Intn(5) > 0, r.Intn(3) > 0, r.Intn(5) == 0
		if seqm.At(p, e.PC).Kind == api.IRet && len(c.State.Stack) == 0 {
			e.Fault = true
		}
		c.Buf = append(c.Buf, e)
	}
	for range r.Intn(3) {
		c.Rsb = append(c.Rsb, r.Intn(len(p.Ins)+1))
	}
	if r.Intn(20) == 0 {
		c.End = 1 + r.Intn(2)
	}
	return c
}

// 16.1: of any machine whose numbers are within their bounds both answer as the model does.
func TestAll(t *testing.T) {
	r := rand.New(rand.NewSource(16))
	tried, refused, faults := map[int]int{}, 0, 0
	for range 4000 {
		p := someProg(t, r)
		for range 30 {
			c := someConf(r, p)
			was := clone(c)
			want, can := model(p, c)
			got, ok := Do(p, c)
			if ok != can || Can(p, c) != can || !equal(got, want) || !can && !nothing(got) {
				t.Fatalf("%v: Do(%v) = %v, %v, want %v, %v", p, c, got, ok, want, can)
			}
			if !equal(c, was) {
				t.Fatal("changed", was, c)
			}
			switch {
			case !ok:
				refused++
			case c.Buf[0].Fault:
				faults++
			default:
				tried[seqm.At(p, c.Buf[0].PC).Kind]++
			}
		}
	}
	for kind := api.IAlu; kind <= api.IFault; kind++ {
		if tried[kind] < 500 {
			t.Error("too little was tried of", kind, tried[kind])
		}
	}
	if refused < 5000 || faults < 5000 {
		t.Error("too little was tried", refused, faults)
	}
}

// machine is told what to do. What is done one by one goes along, and s is what that has come to.
type machine struct {
	p     api.Prog
	c     api.Conf
	s     api.State
	steps int
}

// retire commits the oldest, if it can be, and holds that against a step of one by one.
func (m *machine) retire() string {
	c, ok := Do(m.p, m.c)
	if !ok {
		return ""
	}
	want, _, end := seqm.Step(m.p, m.s)
	was := m.c
	m.c, m.s = c, want
	m.steps++
	got := c.State
	if end == 0 {
		// What is to be fetched next may be guessed; one by one goes on where the oldest went.
		if got.PC != was.State.PC {
			return "turns what is to be fetched next"
		}
		got.PC = was.Buf[0].Next
	}
	if c.End != end || !equalStates(got, want) {
		return fmt.Sprintf("commits %v, %d, and one by one %v, %d", got, c.End, want, end)
	}
	if end != 0 && (len(c.Buf) > 0 || len(c.Rsb) > 0) {
		return "ends with something under way"
	}
	if end == 0 && (len(c.Buf) != len(was.Buf)-1 || !slices.Equal(c.Rsb, was.Rsb)) {
		return "turns what is under way"
	}
	return ""
}

// astray tells what is wrong with what is under way: it begins where one by one is, and each goes on where the one ahead of it goes to.
func (m *machine) astray() string {
	if conf.Final(m.c) {
		return ""
	}
	pc := m.s.PC
	for _, e := range m.c.Buf {
		if e.PC != pc {
			return fmt.Sprintf("%d is under way where %d is next", e.PC, pc)
		}
		pc = e.Next
	}
	if m.c.State.PC != pc {
		return fmt.Sprintf("%d is fetched where %d is next", m.c.State.PC, pc)
	}
	return ""
}

// act does one thing at random.
func (m *machine) act(r *rand.Rand) string {
	what, n := r.Intn(12), len(m.c.Buf)
	switch {
	case what < 4:
		m.fetch(r)
	case what < 6:
		return m.retire()
	case n == 0:
	case what < 11:
		m.take(exec.Do(m.p, m.c, r.Intn(n)))
	default:
		m.take(exec.Addr(m.p, m.c, r.Intn(n)))
	}
	return ""
}

func (m *machine) fetch(r *rand.Rand) {
	if n := fetc.Guesses(m.p, m.c); n > 0 {
		m.c, _ = fetc.Fetch(m.p, m.c, r.Intn(n))
	}
}

// take goes on with c, if that could be done.
func (m *machine) take(c api.Conf, _ []api.Obs, ok bool) {
	if ok {
		m.c = c
	}
}

// 16.2: whatever is guessed, in whatever order it is done, and whenever it is committed: that is what the program does one by one, for as many steps, to the same end.
func TestCommitted(t *testing.T) {
	r := rand.New(rand.NewSource(162))
	ends, steps := map[int]int{}, 0
	for range 8000 {
		p := someProg(t, r)
		s := someState(r, p)
		m := &machine{p: p, c: conf.Begin(s), s: s}
		for acts := 0; acts < 500 && !conf.Final(m.c); acts++ {
			what := m.act(r)
			if what == "" {
				what = m.astray()
			}
			if what != "" {
				t.Fatalf("%v: from %v: %v: %s", p, s, m.c, what)
			}
		}
		got, _, done, end := seqm.Run(p, s, m.steps)
		if done != m.steps || end != m.c.End || !equalStates(got, m.s) {
			t.Fatalf("%v: from %v: %d steps come to %v, %d", p, s, m.steps, m.c, m.c.End)
		}
		ends[end]++
		steps += m.steps
	}
	if steps < 20000 || ends[0] < 200 || ends[api.EHalt] < 200 || ends[api.EFault] < 200 {
		t.Error("too little was tried", steps, ends)
	}
}

// 16.2: who fetches, does and commits all that can be comes to the end of a program: the oldest waits for nothing for ever.
func TestGoesOn(t *testing.T) {
	r := rand.New(rand.NewSource(163))
	for range 3000 {
		p := someProg(t, r)
		s := someState(r, p)
		m := &machine{p: p, c: conf.Begin(s), s: s}
		for range 200 {
			if conf.Final(m.c) {
				break
			}
			m.fetch(r)
			for _, i := range append(r.Perm(len(m.c.Buf)), 0) {
				m.take(exec.Addr(p, m.c, i))
				m.take(exec.Do(p, m.c, i))
			}
			steps := m.steps
			if what := m.retire(); what != "" || m.steps == steps {
				t.Fatalf("%v: from %v: %v does not go on: %s", p, s, m.c, what)
			}
		}
	}
}

// ways are all machines that anything that may be said next makes of m's.
func (m machine) ways() []api.Conf {
	var l []api.Conf
	for guess := range fetc.Guesses(m.p, m.c) {
		c, _ := fetc.Fetch(m.p, m.c, guess)
		l = append(l, c)
	}
	for i := range m.c.Buf {
		if c, _, ok := exec.Do(m.p, m.c, i); ok {
			l = append(l, c)
		}
		if c, _, ok := exec.Addr(m.p, m.c, i); ok {
			l = append(l, c)
		}
	}
	return l
}

// everyWay holds all that may be said to p against one by one, from s on, and tells how many machines there are.
func everyWay(t *testing.T, p api.Prog, s api.State) int {
	t.Helper()
	queue := []machine{{p: p, c: conf.Begin(s), s: s}}
	seen := map[string]int{}
	for len(queue) > 0 {
		m := queue[0]
		queue = queue[1:]
		// What has been committed belongs to what a machine is: the same one may be come to by other steps.
		key := string(conf.Code(m.c)) + "|" + string(arch.Code(m.s))
		if seen[key] > 0 {
			continue
		}
		seen[key] = 1
		if what := m.astray(); what != "" {
			t.Fatalf("%v: from %v: %v: %s", p, s, m.c, what)
		}
		next := m.ways()
		if conf.Final(m.c) == (len(next) > 0 || Can(p, m.c)) {
			t.Fatalf("%v: from %v: %v: %d ways on", p, s, m.c, len(next))
		}
		for _, c := range next {
			queue = append(queue, machine{p, c, m.s, m.steps})
		}
		if Can(p, m.c) {
			if what := m.retire(); what != "" {
				t.Fatalf("%v: from %v: %v: %s", p, s, m.c, what)
			}
			queue = append(queue, m)
		}
	}
	return len(seen)
}

// 16.2: of small programs, all that may be said is said, whatever the order: nothing but what one by one comes to is committed.
func TestEveryWay(t *testing.T) {
	head := []string{"width 2", "window 4", "public r0", "secret r1", "public a 2", "secret k 1"}
	for i, lines := range [][]string{
		{"br lt r0, 2, in", "halt", "in:", "load r2, [r0 + 0]", "load r3, [r2 + 0]", "halt"},
		{"br lt r0, 2, in", "halt", "in:", "fence", "load r2, [r0 + 0]", "load r3, [r2 + 0]"},
		{"store [r0 + 0], r1", "load r2, [0 + 0]", "store [r2 + 0], r2", "load r3, [0 + 1]", "halt"},
		{"add r0, r0, 1", "cmov r2, r0, r1", "ind r2", "halt"},
		{"call f", "call f", "halt", "f:", "add r2, r2, r1", "ret"},
		{"f:", "call f", "ret"},
		{"ret", "halt"},
		{"again:", "sub r0, r0, 1", "store [r0 + 0], r0", "br lt 0, r0, again", "jmp out", "out:", "halt"},
	} {
		p := read(t, append(slices.Clone(head), lines...)...)
		sum := 0
		// Each third of all beginnings: five places of four words each.
		for n := 0; n < 1<<10; n += 3 {
			s, ok := arch.Start(p, []int{n, n >> 2, n >> 4, n >> 6, n >> 8})
			if !ok {
				t.Fatal("Start is false")
			}
			sum += everyWay(t, p, s)
		}
		if sum < 5000 {
			t.Error("too little was tried of", i, sum)
		}
	}
}

// oddProgs are programs that can't be.
func oddProgs() []api.Prog {
	l := []api.Prog{{}, {W: 4}, {Window: 9}, {W: math.MinInt, Window: math.MaxInt, Mems: []api.Mem{{N: math.MaxInt}}}}
	for _, w := range []int{-1, 0, 4, 17} {
		for _, n := range oddNumbers {
			for _, reg := range []bool{true, false} {
				v := api.Val{Reg: reg, N: n}
				p := api.Prog{W: w, Regs: [4]int{n, n, n, n}, Window: max(n, 6), Fuel: n, Mems: []api.Mem{{N: n}, {N: n}}}
				for kind := -1; kind <= 13; kind++ {
					p.Ins = append(p.Ins, api.Ins{Kind: kind, Op: n, D: n, A: v, B: v, Target: n})
				}
				l = append(l, p, api.Prog{W: w, Window: n, Ins: []api.Ins{{Kind: n, Target: n}}})
			}
		}
	}
	return l
}

// oddConf is a machine of n, with count of all, whose Ents are at pc and pc one less.
func oddConf(n, pc, count int) api.Conf {
	l := slices.Repeat([]int{n}, count)
	ents := []api.Ent{{PC: pc, Val: n, Addr: n, From: n, Next: n, Done: count%2 == 0, Known: count%3 == 0}, {PC: pc - 1, Val: n, Addr: n, From: n, Next: n}}
	return api.Conf{State: api.State{Regs: [4]int{n, n, n, n}, Mem: l, Stack: l, PC: n}, Buf: slices.Repeat(ents, count%4), Rsb: l}
}

// 16.3: no call panics, and each ends, whatever it is given; Do can what Can says, and nothing else, beside which it tells nothing.
func TestNoPanic(t *testing.T) {
	done := 0
	for _, p := range oddProgs() {
		for pc := range 16 {
			for k, n := range oddNumbers {
				for _, known := range []bool{false, true} {
					c := oddConf(n, pc, k%7)
					if known && len(c.Buf) > 0 {
						c.Buf[0].Done, c.Buf[0].Known = true, true
					}
					if k%6 == 5 {
						c.End = n
					}
					got, ok := Do(p, c)
					if ok != Can(p, c) || !ok && !nothing(got) {
						t.Fatal(p, c, got, ok)
					}
					if ok {
						done++
					}
				}
			}
		}
	}
	if done < 10000 {
		t.Error("too little was tried", done)
	}
}

// 16.3: what is no kind of instruction is a fault, as it is one by one: of whatever is begun there comes an end.
func TestNoKind(t *testing.T) {
	for _, kind := range []int{math.MinInt, -1, 0, api.IFault + 1, math.MaxInt} {
		p := api.Prog{W: 4, Window: 1, Fuel: 50, Ins: []api.Ins{{Kind: kind}}}
		c, ok := fetc.Fetch(p, conf.Begin(api.State{}), 0)
		if !ok {
			t.Fatal(kind)
		}
		does(t, p, c, ended(c, api.EFault, 0))
	}
}

// 16.3: a state without any cells, registers that are none: nothing is put anywhere.
func TestNoRoom(t *testing.T) {
	p := kinds(t)
	c := way(all(storing))
	c.State.Mem = nil
	does(t, p, c, popped(c))
	c.State.Mem = []int{1, 2}
	does(t, p, c, popped(c))
	for _, d := range oddNumbers {
		q := api.Prog{W: 4, Window: 1, Fuel: 50, Ins: []api.Ins{{Kind: api.IAlu, Op: api.OAdd, D: d}}}
		c := way(all(0))
		want := popped(c)
		if 0 <= d && d < 4 {
			want.State.Regs[d] = 13
		}
		does(t, q, c, want)
	}
}

// 16.3: much of all ends, too.
func TestMuch(t *testing.T) {
	p := kinds(t)
	c := way(slices.Repeat([]api.Ent{all(calling)}, 50000)...)
	c.State.Stack, c.Rsb = make([]int, 50000), make([]int, 50000)
	want := popped(c)
	want.State.Stack = append(want.State.Stack, calling+1)
	does(t, p, c, want)
}

// overlap tells whether a and b share any memory, their spare room too.
func overlap[A, B any](a []A, b []B) bool {
	if cap(a) == 0 || cap(b) == 0 {
		return false
	}
	from, to := uintptr(unsafe.Pointer(unsafe.SliceData(a))), uintptr(unsafe.Pointer(unsafe.SliceData(b)))
	return from < to+uintptr(cap(b))*unsafe.Sizeof(b[:1][0]) && to < from+uintptr(cap(a))*unsafe.Sizeof(a[:1][0])
}

// spoil writes over all that a Conf holds, spare room too.
func spoil(c api.Conf) {
	for _, l := range [][]int{c.State.Mem, c.State.Stack, c.Rsb} {
		for i := range l[:cap(l)] {
			l[:cap(l)][i] = 77
		}
	}
	for i := range c.Buf[:cap(c.Buf)] {
		c.Buf[:cap(c.Buf)][i] = api.Ent{PC: 77}
	}
}

// roomy is a machine with e first whose lists have room behind them, and the whole of these.
func roomy(e api.Ent, n int) (api.Conf, api.Conf) {
	whole := api.Conf{
		State: api.State{Regs: [4]int{1, 9, 2, 15}, Mem: []int{1, 2, 3, 4}, Stack: []int{5, 6, 7, 8}, PC: 3},
		Buf:   []api.Ent{e, from(all(loading), 0), all(adding), from(all(loading), 2)},
		Rsb:   []int{9, 10, 11, 12},
	}
	c := whole
	c.State.Mem, c.State.Stack, c.Buf, c.Rsb = c.State.Mem[:n], c.State.Stack[:n], c.Buf[:n], c.Rsb[:n]
	return c, whole
}

// apart tells what is wrong, if lists of a share memory with each other, or with lists of others.
func apart(t *testing.T, a api.Conf, others ...api.Conf) {
	t.Helper()
	ints := [][]int{a.State.Mem, a.State.Stack, a.Rsb}
	for _, c := range others {
		ints = append(ints, c.State.Mem, c.State.Stack, c.Rsb)
		if overlap(a.Buf, c.Buf) {
			t.Error("shared Buf")
		}
	}
	for i := range 3 {
		for k, l := range ints {
			if i != k && overlap(ints[i], l) {
				t.Error("shared", i, k)
			}
		}
	}
}

// DOC.md's rule 3: what is handed in is not changed, nor the spare room behind its lists; what is answered is new memory, and no two of its lists share any.
func TestMemory(t *testing.T) {
	p, kept := kinds(t), kinds(t)
	for pc := range beyond + 1 {
		for n := 1; n < 5; n++ {
			for _, e := range []api.Ent{all(pc), faulty(all(pc))} {
				e.Addr = 0
				c, whole := roomy(e, n)
				_, was := roomy(e, n)
				got, ok := Do(p, c)
				again, _ := Do(p, c)
				if !ok {
					t.Fatal(pc, n)
				}
				apart(t, got, again, whole)
				spoil(got)
				if !equal(whole, was) || !reflect.DeepEqual(p, kept) {
					t.Error("changed", pc, n, whole)
				}
				if third, _ := Do(p, c); !equal(third, again) {
					t.Error("kept", pc, n)
				}
			}
		}
	}
}

// DOC.md's rule 3: nothing is kept, so that what was handed in may be changed and asked again.
func TestNotKept(t *testing.T) {
	p, c := kinds(t), way(all(calling), from(all(adding), 0))
	first, _ := Do(p, c)
	want := clone(first)
	c.State.Mem[3], c.State.Stack[0], c.Rsb[0], c.Buf[1] = 1, 1, 1, all(storing)
	if !equal(first, want) {
		t.Error("what was answered changes", first)
	}
	want = popped(c)
	want.State.Stack = append(want.State.Stack, calling+1)
	does(t, p, c, want)
	p.Ins[calling] = p.Ins[adding]
	want = popped(c)
	want.State.Regs[1] = 13
	does(t, p, c, want)
}

// DOC.md's rule 1: nil and an empty list are the same.
func TestNil(t *testing.T) {
	p := kinds(t)
	c := api.Conf{Buf: []api.Ent{all(calling)}}
	does(t, p, c, api.Conf{State: api.State{Stack: []int{calling + 1}}})
	c = api.Conf{State: api.State{Mem: []int{}, Stack: []int{}}, Buf: []api.Ent{all(jumping)}, Rsb: []int{}}
	does(t, p, c, api.Conf{})
	c.Buf = []api.Ent{}
	cannot(t, p, c)
}
