package memo

import (
	"fmt"
	"math"
	"math/rand"
	"reflect"
	"slices"
	"strings"
	"testing"

	"augury/api"
	"augury/arch"
	"augury/prog"
	"augury/reso"
	"augury/robq"
	"augury/seqm"
	"augury/word"
)

func read(t *testing.T, lines ...string) api.Prog {
	t.Helper()
	p, line, at, ok := prog.Parse(strings.Join(lines, "\n"))
	if !ok {
		t.Fatalf("Parse(%q) is false at %d, %d", lines, line, at)
	}
	return p
}

// Where kinds has its store and its load.
const (
	storing = 4
	loading = 5
)

// kinds is a program of each kind of instruction.
func kinds(t *testing.T) api.Prog {
	return read(t, "width 4", "public a 4",
		"add r1, r0, 1", "mov r1, 3", "cmov r1, r0, 2", "mul r0, r0, r0",
		"store [r0 + 0], r1", "load r1, [r0 + 0]",
		"br lt r1, 2, out", "jmp out", "ind r1", "call out", "ret", "fence", "halt", "out:")
}

// store is a store of kinds that is Known, and Done if done is.
func store(addr, val int, done bool) api.Ent {
	return api.Ent{PC: storing, Addr: addr, Val: val, From: -1, Known: true, Done: done}
}

// load is a load of kinds that was done.
func load(addr, from int) api.Ent {
	return api.Ent{PC: loading, Addr: addr, From: from, Known: true, Done: true}
}

var oddNumbers = []int{math.MinInt, math.MinInt + 1, -(1 << 32), -17, -2, -1, 0, 1, 2, 3, 4, 5, 6, 15, 16, 17, 1 << 31, 1 << 32, math.MaxInt - 1, math.MaxInt}

// found is what Load answers.
type found struct {
	val, from int
	ok        bool
}

func loaded(p api.Prog, mem []int, l []api.Ent, i, addr int) found {
	val, from, ok := Load(p, mem, l, i, addr)
	return found{val, from, ok}
}

// hazard is what Hazard answers.
type hazard struct {
	at int
	ok bool
}

func passed(p api.Prog, l []api.Ent, i, addr int) hazard {
	at, ok := Hazard(p, l, i, addr)
	return hazard{at, ok}
}

// 11.1: with no store ahead Load is what memory has there, as it stands, and -1; 0 where it has none.
func TestLoadMemory(t *testing.T) {
	p := kinds(t)
	behind := []api.Ent{store(0, 20, true), store(1, 21, true), store(2, 22, false), store(-1, 23, true), store(3, 24, true)}
	for _, mem := range [][]int{nil, {}, {10}, {10, 11, 12}, {10, -11, math.MaxInt, 13, 14, 15, 16}, make([]int, 3, 9)} {
		for _, addr := range oddNumbers {
			want := 0
			for at, n := range mem {
				if at == addr {
					want = n
				}
			}
			for _, l := range [][]api.Ent{nil, {}, behind[:0], behind} {
				for _, i := range []int{0, -1, -5, math.MinInt} {
					if got := loaded(p, mem, l, i, addr); got != (found{want, -1, true}) {
						t.Errorf("Load(%v, %v, %d, %d) = %v, want %d", mem, l, i, addr, got, want)
					}
				}
			}
			if got := loaded(p, mem, nil, math.MaxInt, addr); got != (found{want, -1, true}) {
				t.Errorf("Load(%v, none, %d) = %v, want %d", mem, addr, got, want)
			}
		}
	}
}

// flags are all ways in which an Ent may be Done, Known, Fault.
func flags(e api.Ent) []api.Ent {
	var l []api.Ent
	for n := range 8 {
		e.Done, e.Known, e.Fault = n&1 != 0, n&2 != 0, n&4 != 0
		l = append(l, e)
	}
	return l
}

// 11.1: only an IStore that is Known with that Addr tells, and only if it is Done; all others are passed by, whatever else they hold.
func TestLoadKinds(t *testing.T) {
	p := kinds(t)
	mem := []int{10, 11, 12, 13}
	for pc := -2; pc < len(p.Ins)+3; pc++ {
		for _, e := range flags(api.Ent{PC: pc, Val: 99, Addr: 2, From: 3, Next: 1}) {
			for addr := range 4 {
				want := found{mem[addr], -1, true}
				if pc == storing && addr == 2 && e.Known {
					want = found{}
					if e.Done {
						want = found{99, 0, true}
					}
				}
				if got := loaded(p, mem, []api.Ent{e}, 1, addr); got != want {
					t.Errorf("Load(%v, %d) = %v, want %v", e, addr, got, want)
				}
			}
		}
	}
}

// 11.1: it is the last one ahead that tells, done or not, none at the i-th or behind it; i below 0 has none ahead, i beyond all has all.
func TestLoadLast(t *testing.T) {
	p := kinds(t)
	mem := []int{10, 11, 12, 13}
	l := []api.Ent{
		store(1, 20, true),
		store(2, 21, false),
		{PC: storing, Addr: 1, Val: 22, Done: true},
		store(1, 23, false),
		load(1, 0),
		store(2, 0, true),
		store(1, 24, true),
		store(1, 25, false),
	}
	none := found{}
	own := func(addr int) found { return found{mem[addr], -1, true} }
	rows := map[int][]found{
		0: slices.Repeat([]found{own(0)}, 9),
		1: {own(1), {20, 0, true}, {20, 0, true}, {20, 0, true}, none, none, none, {24, 6, true}, none},
		2: {own(2), own(2), none, none, none, none, {0, 5, true}, {0, 5, true}, {0, 5, true}},
		3: slices.Repeat([]found{own(3)}, 9),
	}
	for addr, row := range rows {
		for _, i := range append([]int{7, 8, 9}, oddNumbers...) {
			want := row[min(max(i, 0), len(l))]
			if got := loaded(p, mem, l, i, addr); got != want {
				t.Errorf("Load(%d, %d) = %v, want %v", i, addr, got, want)
			}
		}
	}
}

// 11.1: what a store holds is told as it stands, and its Addr is held against addr as it stands, in memory or not.
func TestLoadAsItStands(t *testing.T) {
	p := kinds(t)
	for _, addr := range oddNumbers {
		for _, val := range oddNumbers {
			l := []api.Ent{{PC: storing}, store(addr, val, true)}
			if got := loaded(p, []int{7, 7}, l, 2, addr); got != (found{val, 1, true}) {
				t.Errorf("Load(%v, %d) = %v", l, addr, got)
			}
		}
	}
}

// 11.1: only an ILoad that is Known, with that Addr, whose From is below i, is a Hazard; nothing else that it holds counts.
func TestHazardKinds(t *testing.T) {
	p := kinds(t)
	for pc := -2; pc < len(p.Ins)+3; pc++ {
		for from := -1; from < 5; from++ {
			for _, e := range flags(api.Ent{PC: pc, Val: 9, Addr: 2, From: from, Next: 1}) {
				l := []api.Ent{{PC: 0}, {PC: storing}, {PC: storing}, {PC: 11}, e}
				for addr := range 4 {
					for i := range l {
						want := hazard{}
						if pc == loading && e.Known && addr == 2 && from < i && i < 4 {
							want = hazard{4, true}
						}
						if got := passed(p, l, i, addr); got != want {
							t.Errorf("Hazard(%v, %d, %d) = %v, want %v", e, i, addr, got, want)
						}
					}
				}
			}
		}
	}
}

// 11.1: it is the first one behind the i-th, never the i-th itself nor one ahead of it.
func TestHazardFirst(t *testing.T) {
	p := kinds(t)
	unknown := load(1, -1)
	unknown.Known = false
	l := []api.Ent{load(1, -1), {PC: storing}, unknown, load(2, -1), load(1, 1), load(1, 0), {PC: storing}, load(2, 3), load(1, -1), load(1, 7)}
	rows := map[int][]int{
		0: {0, 0, 0, 0, 0, 0, 0, 0, 0, 0},
		1: {8, 5, 4, 4, 5, 8, 8, 8, 9, 0},
		2: {3, 3, 3, 0, 7, 7, 7, 0, 0, 0},
	}
	for addr, row := range rows {
		for i, at := range row {
			if got := passed(p, l, i, addr); got != (hazard{at, at > 0}) {
				t.Errorf("Hazard(%d, %d) = %v, want %d", i, addr, got, at)
			}
		}
		for _, i := range oddNumbers {
			if 0 <= i && i < len(l) {
				continue
			}
			// No Ent is there, and behind an i below 0 none is from ahead of it.
			if got := passed(p, l, i, addr); got != (hazard{}) {
				t.Errorf("Hazard(%d, %d) = %v", i, addr, got)
			}
		}
	}
}

// 11.1: a load's Addr is held against addr as it stands, in memory or not.
func TestHazardAsItStands(t *testing.T) {
	p := kinds(t)
	for _, addr := range oddNumbers {
		l := []api.Ent{{PC: storing}, load(addr, -1)}
		for _, other := range oddNumbers {
			want := hazard{1, true}
			if other != addr {
				want = hazard{}
			}
			if got := passed(p, l, 0, other); got != want {
				t.Errorf("Hazard(%v, %d) = %v, want %v", l, other, got, want)
			}
		}
	}
}

// 11.1: there is no Hazard of none, nor where nothing was loaded.
func TestHazardNone(t *testing.T) {
	p := kinds(t)
	stores := slices.Repeat([]api.Ent{store(1, 5, true)}, 6)
	for _, l := range [][]api.Ent{nil, {}, stores[:0], stores, {load(1, -1)}} {
		for _, i := range oddNumbers {
			if got := passed(p, l, i, 1); got != (hazard{}) {
				t.Errorf("Hazard(%v, %d) = %v", l, i, got)
			}
		}
	}
}

// someEnts are Ents of kinds, made at random, mostly stores and loads at few addresses.
func someEnts(p api.Prog, r *rand.Rand) []api.Ent {
	var l []api.Ent
	for at := range 1 + r.Intn(6) {
		pc := []int{storing, storing, loading, loading, r.Intn(len(p.Ins) + 1)}[r.Intn(5)]
		l = append(l, api.Ent{PC: pc, Val: r.Intn(16), Addr: r.Intn(3), From: r.Intn(at+1) - 1, Done: r.Intn(3) > 0, Known: r.Intn(3) > 0, Fault: r.Intn(5) == 0})
	}
	return l
}

// modelLoad goes from the oldest on, and lets each store put what it holds over what was there.
func modelLoad(mem []int, l []api.Ent, i, addr int) found {
	there := found{mem[addr], -1, true}
	for at, e := range l {
		if at < i && e.PC == storing && e.Known && e.Addr == addr {
			there = found{e.Val, at, e.Done}
		}
	}
	if !there.ok {
		return found{}
	}
	return there
}

// modelHazard goes from the youngest on, and keeps the last that it meets.
func modelHazard(l []api.Ent, i, addr int) hazard {
	var last hazard
	for at := len(l) - 1; at > i; at-- {
		if e := l[at]; e.PC == loading && e.Known && e.Addr == addr && e.From < i {
			last = hazard{at, true}
		}
	}
	return last
}

// 11.1: of Ents made at random both answer as the models do.
func TestModels(t *testing.T) {
	p, mem, r := kinds(t), []int{30, 31, 32}, rand.New(rand.NewSource(11))
	for range 20000 {
		l := someEnts(p, r)
		for i := range len(l) + 2 {
			for addr := range 3 {
				if got, want := loaded(p, mem, l, i, addr), modelLoad(mem, l, i, addr); got != want {
					t.Fatalf("Load(%v, %d, %d) = %v, want %v", l, i, addr, got, want)
				}
				if got, want := passed(p, l, i, addr), modelHazard(l, i, addr); got != want {
					t.Fatalf("Hazard(%v, %d, %d) = %v, want %v", l, i, addr, got, want)
				}
			}
		}
	}
}

// 11.2: when the oldest is committed and popped, both tell of all others what they told, its place one less; nor does what is dropped behind change what is loaded.
func TestCommitOne(t *testing.T) {
	p, r := kinds(t), rand.New(rand.NewSource(110))
	for range 20000 {
		mem, l := []int{30, 31, 32}, someEnts(p, r)
		if l[0].PC == storing {
			l[0].Done, l[0].Known = true, true
		}
		first, rest, _ := robq.Pop(l)
		after := slices.Clone(mem)
		if first.PC == storing {
			after[first.Addr] = first.Val
		}
		for i := 1; i <= len(l); i++ {
			for addr := range 3 {
				was, now := loaded(p, mem, l, i, addr), loaded(p, after, rest, i-1, addr)
				if cut := loaded(p, mem, robq.Cut(l, i), i, addr); cut != was {
					t.Fatalf("%v: Load(%d, %d) = %v, cut %v", l, i, addr, was, cut)
				}
				if was.ok {
					was.from = max(was.from-1, -1)
				}
				if now != was {
					t.Fatalf("%v, popped: Load(%d, %d) = %v, want %v", l, i, addr, now, was)
				}
				old, young := passed(p, l, i, addr), passed(p, rest, i-1, addr)
				if old.ok {
					old.at--
				}
				if young != old {
					t.Fatalf("%v, popped: Hazard(%d, %d) = %v, want %v", l, i, addr, young, old)
				}
			}
		}
	}
}

// straight is a program made at random without jumps, mostly of loads and stores, of which each address is a cell.
func straight(t *testing.T, r *rand.Rand) api.Prog {
	w := 1 + r.Intn(3)
	lines := []string{fmt.Sprintf("width %d", w), fmt.Sprintf("secret k %d", 1<<w)}
	reg := func() string { return fmt.Sprintf("r%d", r.Intn(4)) }
	val := func() string { return []string{reg(), reg(), fmt.Sprint(r.Intn(9))}[r.Intn(3)] }
	for range 3 + r.Intn(10) {
		lines = append(lines, []string{
			fmt.Sprintf("store [%s + %s], %s", reg(), val(), reg()),
			fmt.Sprintf("store [%s + %s], %s", reg(), val(), reg()),
			fmt.Sprintf("load %s, [%s + %s]", reg(), reg(), val()),
			fmt.Sprintf("load %s, [%s + %s]", reg(), reg(), val()),
			fmt.Sprintf("add %s, %s, %s", reg(), val(), val()),
			fmt.Sprintf("cmov %s, %s, %s", reg(), val(), val()),
		}[r.Intn(6)])
	}
	return read(t, lines...)
}

// machine does a straight program out of order: loads by Load, dropped by Hazard, if it minds that.
type machine struct {
	p       api.Prog
	s       api.State
	l       []api.Ent
	next    int
	minds   bool
	dropped int
}

func begin(t *testing.T, r *rand.Rand, p api.Prog, minds bool) *machine {
	l := make([]int, len(arch.Places(p)))
	for i := range l {
		l[i] = r.Intn(1 << p.W)
	}
	s, ok := arch.Start(p, l)
	if !ok {
		t.Fatal(p, l)
	}
	for i := range s.Regs {
		s.Regs[i] = r.Intn(1 << p.W)
	}
	return &machine{p: p, s: s, minds: minds}
}

func (m *machine) put(i int, e api.Ent) {
	m.l, _ = robq.Put(m.l, i, e)
}

func (m *machine) fetch() {
	if m.next >= len(m.p.Ins) {
		return
	}
	if l, ok := robq.Push(m.l, api.Ent{PC: m.next, From: -1, Next: m.next + 1}, 6); ok {
		m.l = l
		m.next++
	}
}

// used is what A and B of the i-th's instruction are, and what its register holds; false, where one is not told.
func (m *machine) used(i int) (a, b, d int, words, own bool) {
	in := m.p.Ins[m.l[i].PC]
	a, first := reso.Val(m.p, m.s.Regs, m.l, i, in.A)
	b, second := reso.Val(m.p, m.s.Regs, m.l, i, in.B)
	d, own = reso.Reg(m.p, m.s.Regs, m.l, i, in.D)
	return a, b, d, first && second, own
}

// do does the i-th, if it can be done.
func (m *machine) do(i int) {
	e := m.l[i]
	a, b, d, words, own := m.used(i)
	switch in := m.p.Ins[e.PC]; {
	case e.Done:
		return
	case in.Kind == api.IStore && own:
		e.Val, e.Done = d, true
	case in.Kind == api.ILoad && words:
		e.Addr = word.Mask(m.p.W, a+b)
		val, from, ok := Load(m.p, m.s.Mem, m.l, i, e.Addr)
		if !ok {
			return
		}
		e.Val, e.From, e.Known, e.Done = val, from, true, true
	case in.Kind == api.IAlu && words:
		e.Val, _ = word.Do(m.p.W, in.Op, a, b)
		e.Done = true
	case in.Kind == api.ICmov && words && own:
		e.Val, e.Done = d, true
		if a != 0 {
			e.Val = b
		}
	}
	m.put(i, e)
}

// tell tells the i-th's address, if it is a store's and can be told, and drops what a Hazard finds out.
func (m *machine) tell(i int) {
	e := m.l[i]
	a, b, _, words, _ := m.used(i)
	if m.p.Ins[e.PC].Kind != api.IStore || e.Known || !words {
		return
	}
	e.Addr, e.Known = word.Mask(m.p.W, a+b), true
	m.put(i, e)
	if at, ok := Hazard(m.p, m.l, i, e.Addr); ok && m.minds {
		m.dropped++
		m.next = m.l[at].PC
		m.l = robq.Cut(m.l, at)
	}
}

// commit pops the oldest, if it is done, and puts in its place what it came to; false, if nothing is committed.
func (m *machine) commit() bool {
	e, rest, ok := robq.Pop(m.l)
	if !ok || !e.Done {
		return false
	}
	in := m.p.Ins[e.PC]
	if in.Kind == api.IStore {
		if !e.Known {
			return false
		}
		m.s.Mem = slices.Clone(m.s.Mem)
		m.s.Mem[e.Addr] = e.Val
	} else {
		m.s.Regs[in.D] = e.Val
	}
	m.l, m.s.PC = rest, e.PC+1
	return true
}

// act does one thing at random, and tells whether something was committed.
func (m *machine) act(r *rand.Rand) bool {
	what := r.Intn(8)
	switch {
	case what < 2:
		m.fetch()
	case what == 2:
		return m.commit()
	case len(m.l) == 0:
	case what < 6:
		m.do(r.Intn(len(m.l)))
	default:
		m.tell(r.Intn(len(m.l)))
	}
	return false
}

// stale is a load under way that does not hold what it would find now; -1, if there is none.
func (m *machine) stale() int {
	for i, e := range m.l {
		if m.p.Ins[e.PC].Kind != api.ILoad || !e.Done {
			continue
		}
		if got := loaded(m.p, m.s.Mem, m.l, i, e.Addr); got.ok && got != (found{e.Val, e.From, true}) {
			return i
		}
	}
	return -1
}

// 11.2: in whatever order it is done, each load under way holds what it would find now, and what is committed is what the program does one by one.
func TestFoundOut(t *testing.T) {
	r := rand.New(rand.NewSource(1100))
	out := 0
	for range 4000 {
		m := begin(t, r, straight(t, r), true)
		for acts := 0; m.s.PC < len(m.p.Ins); acts++ {
			want, _, end := seqm.Step(m.p, m.s)
			if m.act(r) && (end != 0 || !reflect.DeepEqual(m.s, want)) {
				t.Fatalf("%v: committed %v, want %v", m.p, m.s, want)
			}
			if i := m.stale(); i >= 0 {
				t.Fatalf("%v: %v, the %d-th holds what it would not find", m.p, m.l, i)
			}
			if acts > 100000 {
				t.Fatalf("%v: %v does not end", m.p, m.l)
			}
		}
		out += m.dropped
	}
	if out < 500 {
		t.Error("too few were found out", out)
	}
}

// 11.2 is not held for nothing: who does not mind Hazard commits what one by one would not be.
func TestNotMinded(t *testing.T) {
	r := rand.New(rand.NewSource(1101))
	wrong := 0
	for range 1000 {
		m := begin(t, r, straight(t, r), false)
		start := m.s
		for m.s.PC < len(m.p.Ins) {
			m.act(r)
		}
		if want, _, _, _ := seqm.Run(m.p, start, len(m.p.Ins)); !reflect.DeepEqual(m.s, want) {
			wrong++
		}
	}
	if wrong < 50 {
		t.Error("too few went wrong", wrong)
	}
}

// oddProgs are programs that can't be.
func oddProgs() []api.Prog {
	l := []api.Prog{{}, {W: 4}, {W: math.MinInt, Mems: []api.Mem{{N: math.MaxInt}}}}
	for _, w := range []int{-1, 0, 4, 17} {
		for _, n := range oddNumbers {
			p := api.Prog{W: w, Regs: [4]int{n, n, n, n}, Window: n, Fuel: n}
			v := api.Val{Reg: true, N: n}
			for kind := -1; kind <= 13; kind++ {
				p.Ins = append(p.Ins, api.Ins{Kind: kind, Op: n, D: n, A: v, B: v, Target: n})
			}
			l = append(l, p, api.Prog{W: w, Ins: []api.Ins{{Kind: n, D: n}}})
		}
	}
	return l
}

// 11.3: no call panics, and each ends, whatever it is given; beside a false all is 0.
func TestNoPanic(t *testing.T) {
	for _, p := range oddProgs() {
		for _, x := range oddNumbers {
			e := api.Ent{PC: x, Val: x, Addr: x, From: x, Next: x, Done: x%2 == 0, Known: true}
			for _, l := range [][]api.Ent{nil, {e}, {{PC: 3, Known: true}, e, {PC: 4, Known: true, Addr: x}, e, {PC: 3, Known: true, Done: true}}} {
				for _, i := range oddNumbers {
					for _, mem := range [][]int{nil, {x}} {
						got := loaded(p, mem, l, i, x)
						if !got.ok && got != (found{}) || got.from < -1 || got.from >= len(l) {
							t.Fatal(p, l, i, x, got)
						}
					}
					if got := passed(p, l, i, x); !got.ok && got != (hazard{}) || got.ok && (got.at <= i || got.at >= len(l)) {
						t.Fatal(p, l, i, x, got)
					}
				}
			}
		}
	}
	many := slices.Repeat([]api.Ent{load(1, -1)}, 100000)
	if got := loaded(kinds(t), []int{5, 6}, many, math.MaxInt, 1); got != (found{6, -1, true}) {
		t.Error(got)
	}
	if got := passed(kinds(t), many, 99998, 1); got != (hazard{99999, true}) {
		t.Error(got)
	}
}

// DOC.md's rule 3: what is handed in is not changed, nor the spare room behind its lists, and it is not kept.
func TestMemory(t *testing.T) {
	p, kept := kinds(t), kinds(t)
	whole := []api.Ent{store(1, 20, true), {PC: storing}, load(1, 0), load(2, -1), store(2, 21, true)}
	cells := []int{10, 11, 12, 13}
	was, had := slices.Clone(whole), slices.Clone(cells)
	l, mem := whole[:3], cells[:2]
	for i := -1; i < 7; i++ {
		for addr := -1; addr < 5; addr++ {
			Load(p, mem, l, i, addr)
			Hazard(p, l, i, addr)
		}
	}
	if !slices.Equal(whole, was) || !slices.Equal(cells, had) || !reflect.DeepEqual(p, kept) {
		t.Error("changed", whole, cells, p)
	}
	// The spare room is not read either.
	if got := loaded(p, mem, l, 9, 2); got != (found{0, -1, true}) {
		t.Error(got)
	}
	if got := passed(p, l, 1, 2); got != (hazard{}) {
		t.Error(got)
	}
	l[0].Val, mem[0] = 22, 15
	if got := loaded(p, mem, l, 1, 1); got != (found{22, 0, true}) {
		t.Error("kept", got)
	}
	if got := loaded(p, mem, l, 1, 0); got != (found{15, -1, true}) {
		t.Error("kept", got)
	}
}
