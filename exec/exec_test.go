package exec

import (
	"fmt"
	"math"
	"math/rand"
	"reflect"
	"slices"
	"strings"
	"testing"
	"unsafe"

	"augury/api"
	"augury/arch"
	"augury/conf"
	"augury/fetc"
	"augury/prog"
	"augury/seqm"
)

func read(t *testing.T, lines ...string) api.Prog {
	t.Helper()
	p, line, at, ok := prog.Parse(strings.Join(lines, "\n"))
	if !ok {
		t.Fatalf("Parse(%q) is false at %d, %d", lines, line, at)
	}
	return p
}

// Where kinds has what it has; beyond its end is no instruction.
const (
	adding = iota
	loading
	storing
	moving
	branching
	jumping
	going
	calling
	returning
	fencing
	halting
	beyond
)

// kinds is a program of each kind of instruction, with the greatest window.
func kinds(t *testing.T) api.Prog {
	return read(t, "width 4", "window 6", "public a 4",
		"add r1, r0, r2", "two:", "load r1, [r0 + r2]", "three:", "store [r0 + r2], r1", "cmov r1, r0, r2",
		"br lt r0, r2, three", "jmp two", "ind r0", "call two", "ret", "fence", "halt")
}

var oddNumbers = []int{math.MinInt, math.MinInt + 1, -(1 << 32), -17, -2, -1, 0, 1, 2, 3, 4, 5, 6, 15, 16, 17, 1 << 31, 1 << 32, math.MaxInt - 1, math.MaxInt}

// way is a machine with l under way, whose numbers can be told from each other.
func way(l ...api.Ent) api.Conf {
	return api.Conf{State: api.State{Regs: [4]int{1, 9, 2, 15}, Mem: []int{4, 6, 8, 10}, Stack: []int{5, 3}, PC: 10}, Buf: l, Rsb: []int{7, 4}}
}

// begun is what is at pc, fetched with next guessed.
func begun(pc, next int) api.Ent {
	return api.Ent{PC: pc, From: -1, Next: next}
}

// doneAs is e, Done with val.
func doneAs(e api.Ent, val int) api.Ent {
	e.Val, e.Done = val, true
	return e
}

// knownAt is e, Known with addr.
func knownAt(e api.Ent, addr int) api.Ent {
	e.Addr, e.Known = addr, true
	return e
}

// finds is a load that is Done with val from a place at addr.
func finds(pc, addr, val, from int) api.Ent {
	e := doneAs(knownAt(begun(pc, pc+1), addr), val)
	e.From = from
	return e
}

// faulty is e with a Fault.
func faulty(e api.Ent) api.Ent {
	e.Fault = true
	return e
}

func one(kind, at int) []api.Obs {
	return []api.Obs{{Kind: kind, At: at}}
}

// equal has nil and an empty list as the same.
func equal(a, b api.Conf) bool {
	return a.State.Regs == b.State.Regs && slices.Equal(a.State.Mem, b.State.Mem) && slices.Equal(a.State.Stack, b.State.Stack) && a.State.PC == b.State.PC &&
		slices.Equal(a.Buf, b.Buf) && slices.Equal(a.Rsb, b.Rsb) && a.End == b.End
}

// nothing is the zero Conf.
func nothing(c api.Conf) bool {
	return reflect.DeepEqual(c, api.Conf{})
}

func clone(c api.Conf) api.Conf {
	c.State.Mem, c.State.Stack, c.Buf, c.Rsb = slices.Clone(c.State.Mem), slices.Clone(c.State.Stack), slices.Clone(c.Buf), slices.Clone(c.Rsb)
	return c
}

// put is c with e in place of the i-th: all else is as it was.
func put(c api.Conf, i int, e api.Ent) api.Conf {
	c = clone(c)
	c.Buf[i] = e
	return c
}

// dropped is c with n under way, and pc next.
func dropped(c api.Conf, n, pc int) api.Conf {
	c = clone(c)
	c.Buf, c.State.PC = c.Buf[:n], pc
	return c
}

// does tells what is wrong, if the i-th can't be done, or c comes to anything else than want, or other things than seen are seen.
func does(t *testing.T, p api.Prog, c api.Conf, i int, want api.Conf, seen []api.Obs) {
	t.Helper()
	was := clone(c)
	if !Can(p, c, i) {
		t.Errorf("Can(%v, %d) is false", c, i)
	}
	if got, obs, ok := Do(p, c, i); !ok || !equal(got, want) || !slices.Equal(obs, seen) {
		t.Errorf("Do(%v, %d) = %v, %v, %v, want %v, %v", c, i, got, obs, ok, want, seen)
	}
	if !equal(c, was) {
		t.Errorf("Do(%v, %d) changes what is handed in", was, i)
	}
}

// cannot tells what is wrong, if the i-th can be done, or anything is told beside the false.
func cannot(t *testing.T, p api.Prog, c api.Conf, i int) {
	t.Helper()
	if got, obs, ok := Do(p, c, i); ok || Can(p, c, i) || !nothing(got) || len(obs) != 0 {
		t.Errorf("Do(%v, %d) = %v, %v, %v", c, i, got, obs, ok)
	}
}

// tells is as does, of an address.
func tells(t *testing.T, p api.Prog, c api.Conf, i int, want api.Conf, seen []api.Obs) {
	t.Helper()
	was := clone(c)
	if !CanAddr(p, c, i) {
		t.Errorf("CanAddr(%v, %d) is false", c, i)
	}
	if got, obs, ok := Addr(p, c, i); !ok || !equal(got, want) || !slices.Equal(obs, seen) {
		t.Errorf("Addr(%v, %d) = %v, %v, %v, want %v, %v", c, i, got, obs, ok, want, seen)
	}
	if !equal(c, was) {
		t.Errorf("Addr(%v, %d) changes what is handed in", was, i)
	}
}

// untold is as cannot, of an address.
func untold(t *testing.T, p api.Prog, c api.Conf, i int) {
	t.Helper()
	if got, obs, ok := Addr(p, c, i); ok || CanAddr(p, c, i) || !nothing(got) || len(obs) != 0 {
		t.Errorf("Addr(%v, %d) = %v, %v, %v", c, i, got, obs, ok)
	}
}

// 15.1, the example: of none, none can be done.
func TestNone(t *testing.T) {
	p := kinds(t)
	for _, i := range oddNumbers {
		cannot(t, p, way(), i)
		untold(t, p, way(), i)
	}
}

// 15.1, 15.2: there must be such an Ent.
func TestNoSuchEnt(t *testing.T) {
	p := kinds(t)
	c := way(begun(storing, 3), begun(storing, 3))
	for _, i := range oddNumbers {
		if i < 0 || i > 1 {
			cannot(t, p, c, i)
			untold(t, p, c, i)
		}
	}
	// Nor does the room behind the list count.
	c.Buf = c.Buf[:1]
	cannot(t, p, c, 1)
	untold(t, p, c, 1)
}

// 15.1: IAlu, ILoad, IStore, ICmov, IBr, IInd and IRet can be done, others never; 15.2: an IStore alone has an address to tell.
func TestWhichKinds(t *testing.T) {
	p := kinds(t)
	for pc := -2; pc < beyond+3; pc++ {
		c := way(begun(pc, pc+1))
		can := slices.Contains([]int{adding, loading, storing, moving, branching, going, returning}, pc)
		if Can(p, c, 0) != can || CanAddr(p, c, 0) != (pc == storing) {
			t.Errorf("Can, CanAddr at %d: %v, %v", pc, Can(p, c, 0), CanAddr(p, c, 0))
		}
		if !can {
			cannot(t, p, c, 0)
		}
		if pc != storing {
			untold(t, p, c, 0)
		}
	}
}

// 15.1, 15.2: at its end nothing is done, nor told.
func TestEnded(t *testing.T) {
	p := kinds(t)
	for _, end := range oddNumbers {
		for pc := range beyond {
			c := way(begun(pc, pc+1))
			can, told := Can(p, c, 0), CanAddr(p, c, 0)
			c.End = end
			if Can(p, c, 0) != (can && end == 0) || CanAddr(p, c, 0) != (told && end == 0) {
				t.Error(pc, end)
			}
			if end != 0 {
				cannot(t, p, c, 0)
				untold(t, p, c, 0)
			}
		}
	}
}

// 15.1: what is Done is not done again; 15.2: what is Known is not told again, but what is Done may be told.
func TestOnce(t *testing.T) {
	p := kinds(t)
	for pc := range beyond {
		cannot(t, p, way(doneAs(begun(pc, pc+1), 3)), 0)
	}
	store := begun(storing, 3)
	untold(t, p, way(knownAt(store, 2)), 0)
	untold(t, p, way(doneAs(knownAt(store, 2), 5)), 0)
	c := way(doneAs(store, 5))
	tells(t, p, c, 0, put(c, 0, doneAs(knownAt(store, 3), 5)), one(api.BStore, 3))
	c = way(knownAt(store, 2))
	does(t, p, c, 0, put(c, 0, doneAs(knownAt(store, 2), 9)), nil)
}

// 15.1, 15.2: behind a fence nothing is done, nor told, whatever the fence's own flags; ahead of it all is.
func TestBlocked(t *testing.T) {
	p := kinds(t)
	for pc := range beyond {
		e := begun(pc, pc+1)
		ahead := way(e, begun(fencing, 10))
		if pc == adding || pc == loading || pc == storing || pc == moving || pc == branching || pc == going || pc == returning {
			if !Can(p, ahead, 0) {
				t.Error(pc)
			}
		}
		for _, fence := range []api.Ent{begun(fencing, 10), doneAs(begun(fencing, 10), 0)} {
			for _, l := range [][]api.Ent{{fence, e}, {fence, doneAs(begun(jumping, 1), 0), e}, {doneAs(begun(jumping, 1), 0), fence, e}} {
				cannot(t, p, way(l...), len(l)-1)
				untold(t, p, way(l...), len(l)-1)
			}
		}
	}
	if c := way(begun(storing, 3), begun(fencing, 10)); !CanAddr(p, c, 0) {
		t.Error("the fence is behind")
	}
}

// user is a line, and which of r0, r1 and r2 may be late while it can be done, or its address be told.
type user struct {
	line    string
	can, at []int
}

// 15.1, 15.2: each kind waits for what it uses, and for nothing else: what r0, r1 and r2 will hold is under way, one of them not Done.
func TestWaits(t *testing.T) {
	for _, x := range []user{
		{"add r3, r0, r1", []int{2}, nil},
		{"add r0, r1, r2", []int{0}, nil},
		{"lt r1, r1, 3", []int{0, 2}, nil},
		{"mov r0, 5", []int{0, 1, 2}, nil},
		{"mov r0, r1", []int{0, 2}, nil},
		{"cmov r0, r1, r2", nil, nil},
		{"cmov r0, r1, 3", []int{2}, nil},
		{"cmov r3, r1, 3", []int{0, 2}, nil},
		{"cmov r0, 0, r2", []int{1}, nil},
		{"load r3, [r0 + r1]", []int{2}, nil},
		{"load r0, [r1 + 2]", []int{0, 2}, nil},
		{"load r0, [1 + 2]", []int{0, 1, 2}, nil},
		{"store [r1 + r2], r0", []int{1, 2}, []int{0}},
		{"store [r3 + 1], r0", []int{1, 2}, []int{0, 1, 2}},
		{"store [r1 + 1], r1", []int{0, 2}, []int{0, 2}},
		{"br eq r0, r2, out", []int{1}, nil},
		{"br eq 1, r2, out", []int{0, 1}, nil},
		{"br eq 1, 2, out", []int{0, 1, 2}, nil},
		{"ind r1", []int{0, 2}, nil},
		{"ind 1", []int{0, 1, 2}, nil},
		{"ret", []int{0, 1, 2}, nil},
	} {
		p := read(t, "width 4", "window 6", "public a 16", "mov r0, 1", "mov r1, 2", "mov r2, 3", x.line, "out:")
		for late := range 3 {
			c := way(doneAs(begun(0, 1), 1), doneAs(begun(1, 2), 2), doneAs(begun(2, 3), 3), begun(3, 4))
			c.Buf[late].Done = false
			if got := Can(p, c, 3); got != slices.Contains(x.can, late) {
				t.Errorf("Can of %s = %v, while r%d is not told", x.line, got, late)
			}
			if got := CanAddr(p, c, 3); got != slices.Contains(x.at, late) {
				t.Errorf("CanAddr of %s = %v, while r%d is not told", x.line, got, late)
			}
			if !Can(p, c, 3) {
				cannot(t, p, c, 3)
			}
			if !CanAddr(p, c, 3) {
				untold(t, p, c, 3)
			}
			c.Buf[late].Done = true
			if told := strings.HasPrefix(x.line, "store"); !Can(p, c, 3) || CanAddr(p, c, 3) != told {
				t.Errorf("%s waits for nothing", x.line)
			}
		}
	}
}

// 15.1: each Op is done as one by one does it; nothing is observed, nothing committed, and what is behind stays.
func TestAlu(t *testing.T) {
	for line, want := range map[string]int{
		"add r0, r1, r2": 2, "sub r0, r1, r2": 4, "sub r0, r2, r1": 4, "and r0, r1, r2": 3, "or r0, r1, r2": 7,
		"xor r0, r1, r2": 4, "shl r0, r1, 1": 6, "shr r0, r1, 1": 1, "shr r0, r2, 3": 0, "mul r0, r1, r2": 5,
		"lt r0, r1, r2": 1, "lt r0, r2, r1": 0, "eq r0, r1, 3": 1, "eq r0, r1, r2": 0, "mov r0, r1": 3,
		"add r1, r1, 15": 2, "add r0, r1, 1": 4,
	} {
		p := read(t, "width 3", "window 6", line, "halt")
		c := way(begun(0, 1), doneAs(begun(1, -1), 0))
		c.State.Regs, c.State.PC = [4]int{6, 3, 7, 0}, -1
		does(t, p, c, 0, put(c, 0, doneAs(begun(0, 1), want)), nil)
	}
}

// 15.1: what is used is what will be in the register: the last one's ahead, not the committed one's, nor one's behind.
func TestUsed(t *testing.T) {
	p := read(t, "width 4", "window 6", "mov r0, 5", "add r0, r0, 1", "add r1, r0, r0", "mov r0, 9")
	c := way(doneAs(begun(0, 1), 5), begun(1, 2), begun(2, 3), doneAs(begun(3, 4), 9))
	cannot(t, p, c, 2)
	does(t, p, c, 1, put(c, 1, doneAs(begun(1, 2), 6)), nil)
	c.Buf[1] = doneAs(c.Buf[1], 6)
	does(t, p, c, 2, put(c, 2, doneAs(begun(2, 3), 12)), nil)
	c.Buf = c.Buf[1:]
	c.Buf[0].Done = false
	does(t, p, c, 0, put(c, 0, doneAs(begun(1, 2), 2)), nil)
}

// 15.1: an ICmov is B, if A is not 0, else what D holds; what that holds may be under way, too.
func TestCmov(t *testing.T) {
	p := read(t, "width 4", "window 6", "mov r1, 11", "cmov r1, r0, r2")
	for _, x := range []struct{ r0, want int }{{0, 9}, {1, 2}, {15, 2}} {
		c := way(begun(1, 2))
		c.State.Regs[0] = x.r0
		does(t, p, c, 0, put(c, 0, doneAs(begun(1, 2), x.want)), nil)
	}
	for _, x := range []struct{ r0, want int }{{0, 11}, {1, 2}} {
		c := way(doneAs(begun(0, 1), 11), begun(1, 2))
		c.State.Regs[0] = x.r0
		does(t, p, c, 1, put(c, 1, doneAs(begun(1, 2), x.want)), nil)
	}
	// A number is masked, as one by one does it.
	q := read(t, "width 4", "cmov r0, 16, 5", "cmov r0, 17, 21")
	c := way(begun(0, 1))
	does(t, q, c, 0, put(c, 0, doneAs(begun(0, 1), 1)), nil)
	c = way(begun(1, 2))
	does(t, q, c, 0, put(c, 0, doneAs(begun(1, 2), 5)), nil)
}

// 15.1: a load finds what is in memory, and that is observed.
func TestLoad(t *testing.T) {
	p := read(t, "width 4", "window 6", "public a 2", "secret k 2", "load r1, [r0 + r2]")
	for _, x := range []struct{ r0, r2, addr int }{{0, 0, 0}, {1, 0, 1}, {1, 1, 2}, {0, 3, 3}, {15, 1, 0}, {9, 10, 3}} {
		c := way(begun(0, 1))
		c.State.Regs[0], c.State.Regs[2] = x.r0, x.r2
		does(t, p, c, 0, put(c, 0, finds(0, x.addr, []int{4, 6, 8, 10}[x.addr], -1)), one(api.BLoad, x.addr))
	}
}

// 15.1: a load that is not below Cells is a Fault, with its address told, and nothing is observed; whatever is behind it stays.
func TestLoadFault(t *testing.T) {
	p := read(t, "width 4", "window 6", "public a 4", "load r1, [r0 + r2]", "jmp out", "out:")
	for addr := range 16 {
		c := way(begun(0, 1), doneAs(begun(1, 2), 0))
		c.State.Regs[0], c.State.Regs[2] = 12, (addr+4)%16
		want, seen := finds(0, addr, 0, -1), one(api.BLoad, addr)
		if addr < 4 {
			want.Val = c.State.Mem[addr]
		} else {
			want, seen = faulty(want), nil
		}
		does(t, p, c, 0, put(c, 0, want), seen)
	}
	// Val and From are told anew, whatever stood there.
	c := way(begun(0, 1))
	c.State.Regs[0], c.Buf[0].Val, c.Buf[0].From = 8, 7, 3
	does(t, p, c, 0, put(c, 0, faulty(finds(0, 10, 0, -1))), nil)
	// A program without cells has no address.
	q := read(t, "width 4", "load r1, [0 + 0]")
	c = way(begun(0, 1))
	does(t, q, c, 0, put(c, 0, faulty(finds(0, 0, 0, -1))), nil)
}

// 15.1: a load finds what the last store ahead that is Known at its address has, if that is Done; else it waits. Those that are not Known, or elsewhere, or behind, are passed by.
func TestLoadUnderWay(t *testing.T) {
	p := read(t, "width 4", "window 6", "public a 4", "store [r0 + 0], r1", "load r1, [1 + 1]")
	store := func(addr, val int) api.Ent { return doneAs(knownAt(begun(0, 1), addr), val) }
	load, late := begun(1, 2), knownAt(begun(0, 1), 2)
	for _, x := range []struct {
		l         []api.Ent
		i         int
		can       bool
		val, from int
	}{
		{[]api.Ent{load}, 0, true, 8, -1},
		{[]api.Ent{store(2, 5), load}, 1, true, 5, 0},
		{[]api.Ent{store(2, 0), load}, 1, true, 0, 0},
		{[]api.Ent{store(3, 5), load}, 1, true, 8, -1},
		{[]api.Ent{late, load}, 1, false, 0, 0},
		{[]api.Ent{begun(0, 1), load}, 1, true, 8, -1},
		{[]api.Ent{doneAs(begun(0, 1), 5), load}, 1, true, 8, -1},
		{[]api.Ent{store(2, 5), store(2, 6), load}, 2, true, 6, 1},
		{[]api.Ent{store(2, 5), late, load}, 2, false, 0, 0},
		{[]api.Ent{late, store(2, 6), load}, 2, true, 6, 1},
		{[]api.Ent{store(2, 5), begun(0, 1), store(1, 7), load}, 3, true, 5, 0},
		{[]api.Ent{load, store(2, 5)}, 0, true, 8, -1},
		{[]api.Ent{load, late}, 0, true, 8, -1},
		{[]api.Ent{finds(1, 2, 3, -1), load}, 1, true, 8, -1},
	} {
		c := way(x.l...)
		if !x.can {
			cannot(t, p, c, x.i)
			continue
		}
		does(t, p, c, x.i, put(c, x.i, finds(1, 2, x.val, x.from)), one(api.BLoad, 2))
	}
}

// 15.1: a load that is not below Cells does not wait for a store, not for one that is to fault there, too.
func TestLoadFaultDoesNotWait(t *testing.T) {
	p := read(t, "width 4", "window 6", "public a 4", "store [r0 + 0], r1", "load r1, [1 + 8]")
	for _, e := range []api.Ent{faulty(knownAt(begun(0, 1), 9)), faulty(doneAs(knownAt(begun(0, 1), 9), 5)), knownAt(begun(0, 1), 9)} {
		c := way(e, begun(1, 2))
		does(t, p, c, 1, put(c, 1, faulty(finds(1, 9, 0, -1))), nil)
	}
}

// 15.1: a store is Done with what D holds; its address may be told ahead of that or behind it, and its Fault stays.
func TestStore(t *testing.T) {
	p := read(t, "width 4", "window 6", "public a 4", "mov r1, 5", "store [r0 + r2], r1", "load r3, [r0 + r2]")
	for _, x := range []struct {
		l       []api.Ent
		i, want int
	}{
		{[]api.Ent{begun(1, 2)}, 0, 9},
		{[]api.Ent{doneAs(begun(0, 1), 5), begun(1, 2)}, 1, 5},
		{[]api.Ent{doneAs(begun(0, 1), 5), knownAt(begun(1, 2), 3), begun(2, 3)}, 1, 5},
		{[]api.Ent{faulty(knownAt(begun(1, 2), 12)), finds(2, 12, 3, -1)}, 0, 9},
		{[]api.Ent{begun(1, 2), doneAs(begun(0, 1), 5)}, 0, 9},
	} {
		c := way(x.l...)
		does(t, p, c, x.i, put(c, x.i, doneAs(x.l[x.i], x.want)), nil)
	}
	cannot(t, p, way(begun(0, 1), begun(1, 2)), 1)
}

// 15.1: an IBr goes to Target, or on; that is observed; if it was guessed otherwise all behind it goes, and what it goes to is next.
func TestBranch(t *testing.T) {
	p := kinds(t)
	behind := []api.Ent{doneAs(begun(jumping, 1), 0), begun(adding, 1), doneAs(begun(halting, -1), 0)}
	for _, x := range []struct{ r0, r2, to int }{{1, 2, storing}, {2, 1, jumping}, {0, 0, jumping}, {0, 15, storing}, {15, 0, jumping}} {
		for _, guess := range []int{storing, jumping} {
			for n := range 4 {
				c := way(append([]api.Ent{begun(adding, 1), begun(branching, guess)}, behind[:n]...)...)
				c.State.Regs[0], c.State.Regs[2] = x.r0, x.r2
				want := put(c, 1, doneAs(begun(branching, x.to), 0))
				if guess != x.to {
					want = dropped(want, 2, x.to)
				}
				does(t, p, c, 1, want, one(api.BJump, x.to))
			}
		}
	}
}

// 15.1: a PC of -1, where nothing was left to fetch, is told anew by what was guessed wrongly; the return buffer stays as it is.
func TestBranchBehindHalt(t *testing.T) {
	p := read(t, "width 4", "window 6", "br eq r0, 1, out", "halt", "out:", "call out")
	c := way(begun(0, 1), doneAs(begun(1, -1), 0))
	c.State.PC, c.Rsb = -1, []int{3}
	does(t, p, c, 0, dropped(put(c, 0, doneAs(begun(0, 2), 0)), 1, 2), one(api.BJump, 2))
	// To just behind it both guesses go.
	q := read(t, "width 4", "br eq r0, 1, out", "out:", "halt")
	c = way(begun(0, 1), doneAs(begun(1, -1), 0))
	c.State.PC = -1
	does(t, q, c, 0, put(c, 0, doneAs(begun(0, 1), 0)), one(api.BJump, 1))
}

// 15.1: an IInd goes to A, or behind the last instruction, if that is beyond.
func TestInd(t *testing.T) {
	p := kinds(t)
	for r0 := range 16 {
		for guess := range beyond + 1 {
			c := way(begun(going, guess), begun(adding, 1))
			c.State.Regs[0] = r0
			to := min(r0, beyond)
			want := put(c, 0, doneAs(begun(going, to), 0))
			if to != guess {
				want = dropped(want, 1, to)
			}
			does(t, p, c, 0, want, one(api.BJump, to))
		}
	}
	q := read(t, "width 4", "ind 18", "ind 31")
	c := way(begun(0, 2), begun(1, 0))
	does(t, q, c, 0, put(c, 0, doneAs(begun(0, 2), 0)), one(api.BJump, 2))
	does(t, q, c, 1, dropped(put(c, 1, doneAs(begun(1, 2), 0)), 2, 2), one(api.BJump, 2))
}

// path is the Ents of kinds that letters tell: c a call, r a return (not Done), x another.
func path(letters string) []api.Ent {
	var l []api.Ent
	for _, c := range letters {
		l = append(l, map[rune]api.Ent{'c': doneAs(begun(calling, loading), 0), 'r': begun(returning, 5), 'x': begun(adding, 1)}[c])
	}
	return l
}

// pathStack is the Stack behind letters; false, if one of them can't be.
func pathStack(stack []int, letters string) ([]int, bool) {
	stack = slices.Clone(stack)
	for _, c := range letters {
		switch {
		case c == 'c' && len(stack) < 4:
			stack = append(stack, calling+1)
		case c == 'r' && len(stack) > 0:
			stack = stack[:len(stack)-1]
		case c != 'x':
			return nil, false
		}
	}
	return stack, true
}

// letters are all words of up to n of c, r and x.
func letters(n int) []string {
	l := []string{""}
	for at := 0; len(l[at]) < n; at++ {
		l = append(l, l[at]+"c", l[at]+"r", l[at]+"x")
	}
	return l
}

// 15.1: an IRet goes to what is last on the Stack that it will meet, whatever the return buffer has; a Fault, if there is none or that can't be told: then it is Done, and nothing is seen, nor dropped.
func TestRet(t *testing.T) {
	p := kinds(t)
	for _, word := range letters(4) {
		for depth := range 5 {
			stack := []int{11, 10, 0, 7}[:depth]
			met, ok := pathStack(stack, word)
			for _, guess := range []int{0, 5, 7, 8, 10} {
				c := way(append(path(word), begun(returning, guess), begun(adding, 1))...)
				c.State.Stack, c.Rsb = stack, []int{2, guess}
				at := len(word)
				if !ok || len(met) == 0 {
					does(t, p, c, at, put(c, at, faulty(doneAs(begun(returning, guess), 0))), nil)
					continue
				}
				to := met[len(met)-1]
				want := put(c, at, doneAs(begun(returning, to), 0))
				if to != guess {
					want = dropped(want, at+1, to)
				}
				does(t, p, c, at, want, one(api.BJump, to))
			}
		}
	}
}

// 15.2: an address is told, and observed; one that is not below Cells is a Fault, and nothing is seen. A store that is not Done has its address told, too.
func TestAddr(t *testing.T) {
	p := kinds(t)
	for addr := range 16 {
		for _, e := range []api.Ent{begun(storing, 3), doneAs(begun(storing, 3), 5)} {
			c := way(doneAs(begun(moving, 4), 3), e, begun(adding, 1))
			c.State.Regs[0], c.State.Regs[2] = 12, (addr+4)%16
			want, seen := knownAt(e, addr), one(api.BStore, addr)
			if addr >= 4 {
				want, seen = faulty(want), nil
			}
			tells(t, p, c, 1, put(c, 1, want), seen)
		}
	}
}

// 15.2: from the first load behind it on that was at its address, and found what is older, all is dropped, and that load is next; the return buffer stays.
func TestHazard(t *testing.T) {
	p := read(t, "width 4", "window 6", "public a 4", "store [r0 + 1], r1", "load r1, [1 + 1]", "load r3, [1 + 1]", "mov r2, 5", "store [r0 + 1], r2")
	store := begun(0, 1)
	for _, x := range []struct {
		behind []api.Ent
		from   int
	}{
		{nil, 0},
		{[]api.Ent{finds(1, 2, 8, -1)}, 2},
		{[]api.Ent{finds(1, 2, 8, 0)}, 2},
		{[]api.Ent{finds(1, 2, 8, 1)}, 0},
		{[]api.Ent{finds(1, 3, 8, -1)}, 0},
		{[]api.Ent{begun(1, 2)}, 0},
		{[]api.Ent{knownAt(begun(4, 5), 2)}, 0},
		{[]api.Ent{begun(3, 4), finds(2, 2, 8, -1), finds(1, 2, 8, -1)}, 3},
		{[]api.Ent{finds(1, 3, 8, -1), begun(3, 4), finds(2, 2, 8, 0), begun(3, 4)}, 4},
		{[]api.Ent{doneAs(knownAt(begun(4, 5), 2), 5), finds(1, 2, 5, 2), finds(2, 2, 8, -1)}, 4},
	} {
		c := way(append([]api.Ent{doneAs(knownAt(begun(4, 5), 2), 8), store}, x.behind...)...)
		want := put(c, 1, knownAt(store, 2))
		if x.from > 0 {
			want = dropped(want, x.from, c.Buf[x.from].PC)
		}
		tells(t, p, c, 1, want, one(api.BStore, 2))
	}
	// What is ahead is older: it did right.
	c := way(finds(1, 2, 8, -1), store)
	tells(t, p, c, 1, put(c, 1, knownAt(store, 2)), one(api.BStore, 2))
}

// 15.2: a store that is a Fault has no Hazard: what it told was nowhere.
func TestFaultNoHazard(t *testing.T) {
	p := kinds(t)
	store := begun(storing, 3)
	c := way(store, faulty(finds(loading, 9, 0, -1)), begun(adding, 1))
	c.State.Regs = [4]int{7, 9, 2, 15}
	tells(t, p, c, 0, put(c, 0, faulty(knownAt(store, 9))), nil)
}

// 15.3: what was guessed wrongly may be seen, but is dropped: a bound is passed by, a secret is loaded and goes into an address.
func TestBoundPassedBy(t *testing.T) {
	p := read(t, "width 4", "window 6", "public a 2", "secret k 2", "br lt r0, 2, in", "halt", "in:", "load r1, [r0 + 0]", "load r2, [r1 + 0]", "halt")
	c := conf.Begin(api.State{Regs: [4]int{3, 0, 0, 0}, Mem: []int{0, 0, 1, 2}})
	for _, guess := range []int{1, 0, 0} {
		c, _ = fetc.Fetch(p, c, guess)
	}
	c, first, _ := Do(p, c, 1)
	c, second, _ := Do(p, c, 2)
	if !slices.Equal(first, one(api.BLoad, 3)) || !slices.Equal(second, one(api.BLoad, 2)) || c.Buf[2].Val != 1 {
		t.Fatal(c, first, second)
	}
	c, third, ok := Do(p, c, 0)
	want := api.Conf{State: api.State{Regs: [4]int{3, 0, 0, 0}, Mem: []int{0, 0, 1, 2}, PC: 1}, Buf: []api.Ent{doneAs(begun(0, 1), 0)}}
	if !ok || !equal(c, want) || !slices.Equal(third, one(api.BJump, 1)) {
		t.Error(c, third, ok)
	}
}

// 15.3: a load that passed by a store wrongly is dropped, and so is the jump that went astray by what it found.
func TestStorePassedBy(t *testing.T) {
	p := read(t, "width 4", "window 6", "public a 2", "store [r0 + 0], r1", "load r2, [1 + 0]", "ind r2", "halt")
	c := conf.Begin(api.State{Regs: [4]int{1, 3, 0, 0}, Mem: []int{0, 2}})
	for _, guess := range []int{0, 0, 3, 0} {
		c, _ = fetc.Fetch(p, c, guess)
	}
	c, _, _ = Do(p, c, 1)
	c, seen, _ := Do(p, c, 2)
	if len(c.Buf) != 3 || c.State.PC != 2 || !slices.Equal(seen, one(api.BJump, 2)) {
		t.Fatal(c, seen)
	}
	c, seen, ok := Addr(p, c, 0)
	want := api.Conf{State: api.State{Regs: [4]int{1, 3, 0, 0}, Mem: []int{0, 2}, PC: 1}, Buf: []api.Ent{knownAt(begun(0, 1), 1)}}
	if !ok || !equal(c, want) || !slices.Equal(seen, one(api.BStore, 1)) {
		t.Error(c, seen, ok)
	}
}

// model tells what may be done of c by a reckoning of its own.
type model struct {
	p api.Prog
	c api.Conf
}

func (m model) ins(i int) api.Ins {
	if pc := m.c.Buf[i].PC; pc >= 0 && pc < len(m.p.Ins) {
		return m.p.Ins[pc]
	}
	return api.Ins{}
}

func (m model) mask(n int) int {
	return n & (1<<m.p.W - 1)
}

// val tells a register by the youngest ahead that has it as its own.
func (m model) val(i int, v api.Val) (int, bool) {
	if !v.Reg {
		return m.mask(v.N), true
	}
	n, ok := m.c.State.Regs[v.N], true
	for k := range i {
		in := m.ins(k)
		if in.D == v.N && (in.Kind == api.IAlu || in.Kind == api.ILoad || in.Kind == api.ICmov) {
			n, ok = m.c.Buf[k].Val, m.c.Buf[k].Done
		}
	}
	return n, ok
}

func (m model) op(op, a, b int) int {
	truth := map[bool]int{true: 1}
	switch op {
	case api.OAdd:
		return m.mask(a + b)
	case api.OSub:
		return m.mask(a - b)
	case api.OMul:
		return m.mask(a * b)
	case api.OAnd:
		return a & b
	case api.OOr:
		return a | b
	case api.OXor:
		return a ^ b
	case api.OShl:
		return m.mask(a << b)
	case api.OShr:
		return a >> b
	case api.OLt:
		return truth[a < b]
	}
	return truth[a == b]
}

func (m model) cells() int {
	n := 0
	for _, x := range m.p.Mems {
		n += x.N
	}
	return n
}

func (m model) shut(i int) bool {
	if m.c.End != 0 || i < 0 || i >= len(m.c.Buf) {
		return true
	}
	for k := range i {
		if m.ins(k).Kind == api.IFence {
			return true
		}
	}
	return false
}

// found is what is at addr for the i-th.
func (m model) found(i, addr int) (val, from int, ok bool) {
	val, from, ok = m.c.State.Mem[addr], -1, true
	for k := range i {
		if e := m.c.Buf[k]; m.ins(k).Kind == api.IStore && e.Known && e.Addr == addr {
			val, from, ok = e.Val, k, e.Done
		}
	}
	return val, from, ok
}

// outcome is what comes of it.
type outcome struct {
	c    api.Conf
	seen []api.Obs
	ok   bool
}

func (o outcome) same(c api.Conf, seen []api.Obs, ok bool) bool {
	return o.ok == ok && slices.Equal(o.seen, seen) && (equal(o.c, c) && ok || nothing(c))
}

func (m model) do(i int) outcome {
	if m.shut(i) || m.c.Buf[i].Done {
		return outcome{}
	}
	in, e := m.ins(i), m.c.Buf[i]
	e.Done = true
	a, aOk := m.val(i, in.A)
	b, bOk := m.val(i, in.B)
	d, dOk := m.val(i, api.Val{Reg: true, N: in.D})
	switch {
	case in.Kind == api.IAlu && aOk && bOk:
		e.Val = m.op(in.Op, a, b)
	case in.Kind == api.ICmov && aOk && bOk && dOk:
		e.Val = []int{d, b}[min(a, 1)]
	case in.Kind == api.IStore && dOk:
		e.Val = d
	case in.Kind == api.ILoad && aOk && bOk:
		return m.load(i, m.mask(a+b))
	case in.Kind == api.IBr && aOk && bOk:
		return m.jump(i, []int{e.PC + 1, in.Target}[m.op(in.Op, a, b)])
	case in.Kind == api.IInd && aOk:
		return m.jump(i, min(a, len(m.p.Ins)))
	case in.Kind == api.IRet:
		return m.ret(i)
	default:
		return outcome{}
	}
	return outcome{put(m.c, i, e), nil, true}
}

func (m model) load(i, addr int) outcome {
	e := doneAs(knownAt(m.c.Buf[i], addr), 0)
	e.From = -1
	if addr >= m.cells() {
		return outcome{put(m.c, i, faulty(e)), nil, true}
	}
	var ok bool
	e.Val, e.From, ok = m.found(i, addr)
	if !ok {
		return outcome{}
	}
	return outcome{put(m.c, i, e), one(api.BLoad, addr), true}
}

func (m model) jump(i, to int) outcome {
	e := m.c.Buf[i]
	wrong := e.Next != to
	e.Done, e.Next = true, to
	c := put(m.c, i, e)
	if wrong {
		c = dropped(c, i+1, to)
	}
	return outcome{c, one(api.BJump, to), true}
}

func (m model) ret(i int) outcome {
	stack := slices.Clone(m.c.State.Stack)
	for k := range i + 1 {
		e := m.c.Buf[i]
		e.Done = true
		fault := outcome{put(m.c, i, faulty(e)), nil, true}
		switch m.ins(k).Kind {
		case api.ICall:
			if len(stack) > 3 {
				return fault
			}
			stack = append(stack, m.c.Buf[k].PC+1)
		case api.IRet:
			last := len(stack) - 1
			if last < 0 {
				return fault
			}
			if k == i {
				return m.jump(i, stack[last])
			}
			stack = stack[:last]
		}
	}
	return outcome{}
}

func (m model) addr(i int) outcome {
	if m.shut(i) || m.c.Buf[i].Known || m.ins(i).Kind != api.IStore {
		return outcome{}
	}
	a, aOk := m.val(i, m.ins(i).A)
	b, bOk := m.val(i, m.ins(i).B)
	if !aOk || !bOk {
		return outcome{}
	}
	at := m.mask(a + b)
	e := knownAt(m.c.Buf[i], at)
	if at >= m.cells() {
		return outcome{put(m.c, i, faulty(e)), nil, true}
	}
	c := put(m.c, i, e)
	for k := i + 1; k < len(c.Buf); k++ {
		if e := c.Buf[k]; m.ins(k).Kind == api.ILoad && e.Known && e.Addr == at && e.From < i {
			return outcome{dropped(c, k, e.PC), one(api.BStore, at), true}
		}
	}
	return outcome{c, one(api.BStore, at), true}
}

// someLines are instructions made at random, of all kinds, or of those that do not jump, with labels l0 to ln.
func someLines(r *rand.Rand, w, n int) []string {
	reg := func() string { return fmt.Sprintf("r%d", r.Intn(4)) }
	val := func() string { return []string{reg(), reg(), fmt.Sprint(r.Intn(1<<w + 3))}[r.Intn(3)] }
	label := func() string { return fmt.Sprintf("l%d", r.Intn(n+1)) }
	op := func() string {
		return []string{"add", "sub", "and", "or", "xor", "shl", "shr", "mul", "lt", "eq"}[r.Intn(10)]
	}
	var lines []string
	most := []int{8, 18}[r.Intn(2)]
	for i := range n {
		lines = append(lines, fmt.Sprintf("l%d:", i), []func() string{
			func() string { return fmt.Sprintf("%s %s, %s, %s", op(), reg(), val(), val()) },
			func() string { return fmt.Sprintf("%s %s, %s, %s", op(), reg(), val(), val()) },
			func() string { return fmt.Sprintf("mov %s, %s", reg(), val()) },
			func() string { return fmt.Sprintf("load %s, [%s + %s]", reg(), val(), val()) },
			func() string { return fmt.Sprintf("load %s, [%s + %s]", reg(), val(), val()) },
			func() string { return fmt.Sprintf("store [%s + %s], %s", val(), val(), reg()) },
			func() string { return fmt.Sprintf("store [%s + %s], %s", val(), val(), reg()) },
			func() string { return fmt.Sprintf("cmov %s, %s, %s", reg(), val(), val()) },
			func() string { return fmt.Sprintf("br lt %s, %s, %s", val(), val(), label()) },
			func() string { return fmt.Sprintf("br eq %s, %s, %s", val(), val(), label()) },
			func() string { return "ind " + val() },
			func() string { return "jmp " + label() },
			func() string { return "call " + label() },
			func() string { return "call " + label() },
			func() string { return "ret" },
			func() string { return "ret" },
			func() string { return "fence" },
			func() string { return "halt" },
		}[r.Intn(most)]())
	}
	return append(lines, fmt.Sprintf("l%d:", n))
}

func someProg(t *testing.T, r *rand.Rand) api.Prog {
	w := 1 + r.Intn(3)
	cells := []int{1 + r.Intn(1<<w), 1 << w, 1 << w}[r.Intn(3)]
	head := []string{fmt.Sprintf("width %d", w), fmt.Sprintf("window %d", max(1, 6-r.Intn(8))), "public r0", "secret r1", fmt.Sprintf("public a %d", cells)}
	return read(t, append(head, someLines(r, w, 3+r.Intn(16))...)...)
}

func someState(r *rand.Rand, p api.Prog) api.State {
	s := api.State{Mem: make([]int, arch.Cells(p)), PC: r.Intn(len(p.Ins) + 1)}
	for i := range s.Regs {
		s.Regs[i] = r.Intn(1 << p.W)
	}
	for i := range s.Mem {
		s.Mem[i] = r.Intn(1 << p.W)
	}
	for range r.Intn(5) {
		s.Stack = append(s.Stack, r.Intn(len(p.Ins)+1))
	}
	return s
}

// someConf is a machine as no fetching makes it: its numbers are within their bounds, and that is all.
func someConf(r *rand.Rand, p api.Prog) api.Conf {
	c := api.Conf{State: someState(r, p)}
	for i := range r.Intn(7) {
		e := api.Ent{PC: r.Intn(len(p.Ins) + 1), Val: r.Intn(1 << p.W), Addr: r.Intn(1 << p.W), From: r.Intn(i+1) - 1, Next: r.Intn(len(p.Ins)+2) - 1}
		// Two of three fences are left out: behind them nothing can be done.
		for r.Intn(3) > 0 && seqm.At(p, e.PC).Kind == api.IFence {
			e.PC = r.Intn(len(p.Ins) + 1)
		}
		e.Done = r.Intn(3) > 0
		e.Known = r.Intn(2) == 0 || e.Done && seqm.At(p, e.PC).Kind == api.ILoad
		c.Buf = append(c.Buf, e)
	}
	for range r.Intn(3) {
		c.Rsb = append(c.Rsb, r.Intn(len(p.Ins)+1))
	}
	if r.Intn(20) == 0 {
		c.End = 1 + r.Intn(2)
	}
	return c
}

// 15.1, 15.2: of any machine whose numbers are within their bounds all four answer as the model does, for each Ent and where there is none.
func TestAll(t *testing.T) {
	r := rand.New(rand.NewSource(15))
	tried := map[int]int{}
	for range 4000 {
		p := someProg(t, r)
		for range 30 {
			c := someConf(r, p)
			m, was := model{p, c}, clone(c)
			for i := -1; i <= len(c.Buf); i++ {
				want := m.do(i)
				got, seen, ok := Do(p, c, i)
				if !want.same(got, seen, ok) || Can(p, c, i) != want.ok {
					t.Fatalf("%v: Do(%v, %d) = %v, %v, %v, want %v", p, c, i, got, seen, ok, want)
				}
				if ok {
					tried[m.ins(i).Kind]++
				}
				want = m.addr(i)
				got, seen, ok = Addr(p, c, i)
				if !want.same(got, seen, ok) || CanAddr(p, c, i) != want.ok {
					t.Fatalf("%v: Addr(%v, %d) = %v, %v, %v, want %v", p, c, i, got, seen, ok, want)
				}
				if ok && len(got.Buf) < len(c.Buf) {
					tried[0]++
				}
			}
			if !equal(c, was) {
				t.Fatal("changed", was, c)
			}
		}
	}
	for _, kind := range []int{0, api.IAlu, api.ILoad, api.IStore, api.ICmov, api.IBr, api.IInd, api.IRet} {
		if tried[kind] < 500 {
			t.Error("too little was tried of", kind, tried[kind])
		}
	}
}

// machine is told what to do at random. What is done one by one goes along, and s is what that has come to.
type machine struct {
	p                    api.Prog
	c                    api.Conf
	s                    api.State
	end                  int
	steps, wrong, passed int
	done, observed       int
}

func (m *machine) fetch(r *rand.Rand) {
	if n := fetc.Guesses(m.p, m.c); n > 0 {
		m.c, _ = fetc.Fetch(m.p, m.c, r.Intn(n))
	}
}

// do does the i-th, or tells its address, and tells what is wrong with what that leaves.
func (m *machine) do(i int, addr bool) string {
	act := Do
	if addr {
		act = Addr
	}
	c, seen, ok := act(m.p, m.c, i)
	if !ok {
		return ""
	}
	was := m.c
	m.c = c
	m.done++
	m.observed += len(seen)
	state := c.State
	state.PC = was.State.PC
	if !reflect.DeepEqual(state, was.State) || !slices.Equal(c.Rsb, was.Rsb) || c.End != 0 {
		return "commits when it does"
	}
	if len(c.Buf) == len(was.Buf) && c.State.PC != was.State.PC && i < len(was.Buf)-1 {
		return "goes elsewhere, and keeps what is behind"
	}
	switch {
	case len(c.Buf) < len(was.Buf) && addr:
		m.passed++
	case c.State.PC != was.State.PC:
		m.wrong++
	}
	return ""
}

// commit commits the oldest, as chapter 16 tells it, if it can be, and one by one does a step.
func (m *machine) commit() string {
	if len(m.c.Buf) == 0 {
		return ""
	}
	e := m.c.Buf[0]
	in := seqm.At(m.p, e.PC)
	if !e.Done && in.Kind != api.IFence || in.Kind == api.IStore && !e.Known {
		return ""
	}
	s := clone(m.c).State
	s.PC = e.Next
	end := 0
	switch {
	case e.Fault || in.Kind == api.IFault:
		end = api.EFault
	case in.Kind == api.IHalt:
		end = api.EHalt
	case in.Kind == api.IAlu || in.Kind == api.ILoad || in.Kind == api.ICmov:
		s.Regs[in.D] = e.Val
	case in.Kind == api.IStore:
		s.Mem[e.Addr] = e.Val
	case in.Kind == api.ICall:
		s.Stack = append(s.Stack, e.PC+1)
	case in.Kind == api.IRet:
		s.Stack = s.Stack[:len(s.Stack)-1]
	}
	if end != 0 {
		s.PC = e.PC
	}
	return m.committed(s, end)
}

// committed holds what was committed against a step of one by one.
func (m *machine) committed(s api.State, end int) string {
	want, _, wantEnd := seqm.Step(m.p, m.s)
	if end != wantEnd || !equal(api.Conf{State: s}, api.Conf{State: want}) {
		return fmt.Sprintf("commits %v, %d, and one by one %v, %d", s, end, want, wantEnd)
	}
	m.s, m.end = want, end
	m.steps++
	rest := slices.Clone(m.c.Buf[1:])
	for i := range rest {
		rest[i].From = max(rest[i].From-1, -1)
	}
	s.PC = m.c.State.PC
	m.c.State, m.c.Buf = s, rest
	return ""
}

// astray tells what is wrong with what is under way: each goes on where the one ahead of it goes to.
func (m *machine) astray() string {
	pc := m.s.PC
	for _, e := range m.c.Buf {
		if e.PC != pc {
			return fmt.Sprintf("%d is under way where %d is next", e.PC, pc)
		}
		pc = e.Next
	}
	if m.c.State.PC != pc {
		return fmt.Sprintf("%d is fetched where %d is next", m.c.State.PC, pc)
	}
	return ""
}

// act does one thing at random.
func (m *machine) act(r *rand.Rand) string {
	what := r.Intn(12)
	switch {
	case what < 4:
		m.fetch(r)
	case what < 5:
		return m.commit()
	case len(m.c.Buf) == 0:
	case what < 11:
		return m.do(r.Intn(len(m.c.Buf)), false)
	default:
		return m.do(r.Intn(len(m.c.Buf)), true)
	}
	return ""
}

// 15.3: whatever is guessed, and in whatever order it is done, what is committed is what the program does one by one, for as many steps, to the same end.
func TestCommitted(t *testing.T) {
	r := rand.New(rand.NewSource(153))
	var sum machine
	ends := map[int]int{}
	for range 8000 {
		p := someProg(t, r)
		s := someState(r, p)
		m := &machine{p: p, c: conf.Begin(s), s: s}
		for acts := 0; acts < 500 && m.end == 0; acts++ {
			if what := m.act(r); what != "" {
				t.Fatalf("%v: from %v: %v: %s", p, s, m.c, what)
			}
			if m.end != 0 {
				break
			}
			if what := m.astray(); what != "" {
				t.Fatalf("%v: from %v: %v: %s", p, s, m.c, what)
			}
		}
		if got, _, done, end := seqm.Run(p, s, m.steps); done != m.steps || end != m.end || !equal(api.Conf{State: got}, api.Conf{State: m.s}) {
			t.Fatalf("%v: from %v: %d steps come to %v, %d", p, s, m.steps, m.s, m.end)
		}
		sum.wrong, sum.passed, sum.steps, sum.done, sum.observed = sum.wrong+m.wrong, sum.passed+m.passed, sum.steps+m.steps, sum.done+m.done, sum.observed+m.observed
		ends[m.end]++
	}
	if sum.wrong < 3000 || sum.passed < 200 || sum.steps < 20000 || sum.done < 30000 || sum.observed < 20000 {
		t.Errorf("too little was tried: %d wrong, %d passed by, %d steps, %d done, %d observed", sum.wrong, sum.passed, sum.steps, sum.done, sum.observed)
	}
	if ends[0] < 200 || ends[api.EHalt] < 200 || ends[api.EFault] < 200 {
		t.Error("too few ends", ends)
	}
}

// 15.3: who fetches, does and commits all that can be comes to the end of a program: nothing waits for ever.
func TestGoesOn(t *testing.T) {
	r := rand.New(rand.NewSource(154))
	for range 3000 {
		p := someProg(t, r)
		s := someState(r, p)
		m := &machine{p: p, c: conf.Begin(s), s: s}
		for range 200 {
			if m.end != 0 {
				break
			}
			m.fetch(r)
			for _, i := range r.Perm(len(m.c.Buf)) {
				m.do(i, true)
				m.do(i, false)
			}
			m.do(0, true)
			m.do(0, false)
			steps := m.steps
			if what := m.commit(); what != "" || m.steps == steps {
				t.Fatalf("%v: from %v: %v does not go on: %s", p, s, m.c, what)
			}
		}
	}
}

// oddProgs are programs that can't be.
func oddProgs() []api.Prog {
	l := []api.Prog{{}, {W: 4}, {Window: 9}, {W: math.MinInt, Window: math.MaxInt, Mems: []api.Mem{{N: math.MaxInt}}}}
	for _, w := range []int{-1, 0, 4, 17} {
		for _, n := range oddNumbers {
			for _, reg := range []bool{true, false} {
				v := api.Val{Reg: reg, N: n}
				p := api.Prog{W: w, Regs: [4]int{n, n, n, n}, Window: max(n, 6), Fuel: n, Mems: []api.Mem{{N: n}, {N: n}}}
				for kind := -1; kind <= 13; kind++ {
					p.Ins = append(p.Ins, api.Ins{Kind: kind, Op: n, D: n, A: v, B: v, Target: n})
				}
				l = append(l, p, api.Prog{W: w, Window: n, Ins: []api.Ins{{Kind: n, Target: n}}})
			}
		}
	}
	return l
}

// oddConf is a machine of n, with count of all, whose Ents are at pc and pc one less.
func oddConf(n, pc, count int) api.Conf {
	l := slices.Repeat([]int{n}, count)
	ents := []api.Ent{{PC: pc - 1, Val: n, Addr: n, From: n, Next: n, Done: count%2 == 0, Known: count%3 == 0}, {PC: pc, Val: n, Addr: n, From: n, Next: n}}
	return api.Conf{State: api.State{Regs: [4]int{n, n, n, n}, Mem: l, Stack: l, PC: n}, Buf: slices.Repeat(ents, count%4), Rsb: l}
}

// 15.4: no call panics, and each ends, whatever it is given; Do and Addr can what Can and CanAddr say, and nothing else, beside which they tell nothing.
func TestNoPanic(t *testing.T) {
	for _, p := range oddProgs() {
		for pc := range 16 {
			for k, n := range oddNumbers {
				c := oddConf(n, pc, k%7)
				if k%6 == 5 {
					c.End = n
				}
				for _, i := range append([]int{k % 8, len(c.Buf) - 1, len(c.Buf)}, oddNumbers...) {
					got, seen, ok := Do(p, c, i)
					if ok != Can(p, c, i) || !ok && (!nothing(got) || len(seen) > 0) {
						t.Fatal(p, c, i, got, seen, ok)
					}
					got, seen, ok = Addr(p, c, i)
					if ok != CanAddr(p, c, i) || !ok && (!nothing(got) || len(seen) > 0) {
						t.Fatal(p, c, i, got, seen, ok)
					}
				}
			}
		}
	}
}

// 15.4: a PC at which no instruction is is none that can be done.
func TestNowhere(t *testing.T) {
	p := kinds(t)
	for _, pc := range append([]int{beyond, 31, 32}, oddNumbers...) {
		if pc < 0 || pc >= beyond {
			c := way(begun(pc, -1), begun(adding, 1))
			cannot(t, p, c, 0)
			untold(t, p, c, 0)
			does(t, p, c, 1, put(c, 1, doneAs(begun(adding, 1), 3)), nil)
		}
	}
}

// 15.4: of a state with fewer cells than its program has, what is not there is loaded as 0.
func TestFewCells(t *testing.T) {
	p := kinds(t)
	c := way(begun(loading, 2), begun(storing, 3))
	c.State.Mem = []int{5}
	does(t, p, c, 0, put(c, 0, finds(loading, 3, 0, -1)), one(api.BLoad, 3))
	c.Buf[0] = finds(loading, 3, 0, -1)
	tells(t, p, c, 1, put(c, 1, knownAt(begun(storing, 3), 3)), one(api.BStore, 3))
}

// 15.4: much of all ends, too.
func TestMuch(t *testing.T) {
	p := kinds(t)
	c := way(slices.Repeat([]api.Ent{doneAs(begun(adding, 1), 2)}, 50000)...)
	c.State.Stack, c.Rsb = make([]int, 50000), make([]int, 50000)
	c.Buf = append(c.Buf, begun(returning, 0), begun(storing, 3))
	does(t, p, c, 50000, put(c, 50000, doneAs(begun(returning, 0), 0)), one(api.BJump, 0))
	does(t, p, c, 50001, put(c, 50001, doneAs(begun(storing, 3), 2)), nil)
}

// overlap tells whether a and b share any memory, their spare room too.
func overlap[A, B any](a []A, b []B) bool {
	if cap(a) == 0 || cap(b) == 0 {
		return false
	}
	from, to := uintptr(unsafe.Pointer(unsafe.SliceData(a))), uintptr(unsafe.Pointer(unsafe.SliceData(b)))
	return from < to+uintptr(cap(b))*unsafe.Sizeof(b[:1][0]) && to < from+uintptr(cap(a))*unsafe.Sizeof(a[:1][0])
}

// spoil writes over all that a Conf holds, spare room too.
func spoil(c api.Conf) {
	for _, l := range [][]int{c.State.Mem, c.State.Stack, c.Rsb} {
		for i := range l[:cap(l)] {
			l[:cap(l)][i] = 77
		}
	}
	for i := range c.Buf[:cap(c.Buf)] {
		c.Buf[:cap(c.Buf)][i] = api.Ent{PC: 77}
	}
}

// roomy is a machine with e first whose lists have room behind them, and the whole of these; behind e is a load that passed it by.
func roomy(e api.Ent, n int) (api.Conf, api.Conf) {
	whole := api.Conf{
		State: api.State{Regs: [4]int{1, 9, 2, 15}, Mem: []int{1, 2, 3, 4}, Stack: []int{5, 6, 7, 8}, PC: 3},
		Buf:   []api.Ent{e, begun(adding, 1), finds(loading, 3, 4, -1), begun(storing, 3)},
		Rsb:   []int{9, 10, 11, 12},
	}
	c := whole
	c.State.Mem, c.State.Stack, c.Buf, c.Rsb = c.State.Mem[:n], c.State.Stack[:n], c.Buf[:n], c.Rsb[:n]
	return c, whole
}

// apart tells what is wrong, if lists of a share memory with each other, or with lists of others.
func apart(t *testing.T, a api.Conf, others ...api.Conf) {
	t.Helper()
	ints := [][]int{a.State.Mem, a.State.Stack, a.Rsb}
	for _, c := range others {
		ints = append(ints, c.State.Mem, c.State.Stack, c.Rsb)
		if overlap(a.Buf, c.Buf) {
			t.Error("shared Buf")
		}
	}
	for i := range 3 {
		for k, l := range ints {
			if i != k && overlap(ints[i], l) {
				t.Error("shared", i, k)
			}
		}
	}
}

// DOC.md's rule 3: what is handed in is not changed, nor the spare room behind its lists; what is answered is new memory, and no two of its lists share any.
func TestMemory(t *testing.T) {
	p, kept := kinds(t), kinds(t)
	for _, pc := range []int{adding, loading, storing, moving, branching, going, returning} {
		for n := 1; n < 4; n++ {
			for _, act := range []func(api.Prog, api.Conf, int) (api.Conf, []api.Obs, bool){Do, Addr} {
				c, whole := roomy(begun(pc, pc+1), n)
				_, was := roomy(begun(pc, pc+1), n)
				got, seen, ok := act(p, c, 0)
				again, obs, _ := act(p, c, 0)
				if !ok {
					continue
				}
				apart(t, got, again, whole)
				if overlap(seen, obs) {
					t.Error("shared observations", pc)
				}
				spoil(got)
				for i := range seen {
					seen[i] = api.Obs{}
				}
				if !equal(whole, was) || !reflect.DeepEqual(p, kept) {
					t.Error("changed", pc, n, whole)
				}
				if third, obs3, _ := act(p, c, 0); !equal(third, again) || !slices.Equal(obs, obs3) {
					t.Error("kept", pc, n)
				}
			}
		}
	}
}

// DOC.md's rule 3: nothing is kept, so that what was handed in may be changed and asked again.
func TestNotKept(t *testing.T) {
	p, c := kinds(t), way(begun(loading, 2), begun(adding, 1))
	first, _, _ := Do(p, c, 0)
	want := clone(first)
	c.State.Mem[3], c.State.Stack[0], c.Rsb[0], c.Buf[1] = 1, 1, 1, begun(halting, -1)
	if !equal(first, want) {
		t.Error("what was answered changes", first)
	}
	does(t, p, c, 0, put(c, 0, finds(loading, 3, 1, -1)), one(api.BLoad, 3))
	p.Ins[loading] = p.Ins[storing]
	does(t, p, c, 0, put(c, 0, doneAs(begun(loading, 2), 9)), nil)
}
