package conf

import (
	"bytes"
	"fmt"
	"math"
	"math/rand"
	"slices"
	"strings"
	"testing"
	"unsafe"

	"augury/api"
	"augury/arch"
	"augury/code"
	"augury/prog"
)

func read(t *testing.T, lines ...string) api.Prog {
	t.Helper()
	p, line, at, ok := prog.Parse(strings.Join(lines, "\n"))
	if !ok {
		t.Fatalf("Parse(%q) is false at %d, %d", lines, line, at)
	}
	return p
}

var oddNumbers = []int{math.MinInt, math.MinInt + 1, -(1 << 32), -17, -2, -1, 0, 1, 2, 3, 5, 15, 16, 17, 253, 254, 255, 300, 1 << 31, 1 << 32, 1 << 60, 1 << 61, 1 << 62, math.MaxInt - 1, math.MaxInt}

// equal has nil and an empty list as the same.
func equal(a, b api.Conf) bool {
	return a.State.Regs == b.State.Regs && slices.Equal(a.State.Mem, b.State.Mem) && slices.Equal(a.State.Stack, b.State.Stack) && a.State.PC == b.State.PC &&
		slices.Equal(a.Buf, b.Buf) && slices.Equal(a.Rsb, b.Rsb) && a.End == b.End
}

// nothing is the zero Conf.
func nothing(c api.Conf) bool {
	return c.State.Regs == [4]int{} && c.State.PC == 0 && c.End == 0 && c.State.Mem == nil && c.State.Stack == nil && c.Buf == nil && c.Rsb == nil
}

// busy is a Conf in which each number can be told from the others, and from lengths and flags.
func busy() api.Conf {
	return api.Conf{
		State: api.State{Regs: [4]int{101, 102, 103, 104}, Mem: []int{105, 106, 107}, Stack: []int{108, 109}, PC: 110},
		Buf: []api.Ent{
			{PC: 111, Val: 112, Addr: 113, From: 114, Next: 115, Done: true},
			{PC: 116, Val: 117, Addr: 118, From: -1, Next: 119, Known: true},
			{PC: 120, Val: 121, Addr: 122, From: 0, Next: -1, Fault: true},
		},
		Rsb: []int{123, 124},
		End: api.EHalt,
	}
}

// busyRow is what tells busy, written out so that it leans on nothing of what is tested.
var busyRow = []int{
	101, 102, 103, 104, 3, 105, 106, 107, 2, 108, 109, 110,
	3,
	111, 112, 113, 114, 115, 1, 0, 0,
	116, 117, 118, -1, 119, 0, 1, 0,
	120, 121, 122, 0, -1, 0, 0, 1,
	2, 123, 124,
	1,
}

// 13.1: Begin is s as it stands, with nothing under way, nothing in the return buffer, and no end.
func TestBegin(t *testing.T) {
	p := read(t, "width 4", "public r1", "secret a 3", "halt")
	s, _ := arch.Start(p, []int{7, 1, 2, 3})
	for _, s := range []api.State{
		{}, s,
		{Mem: []int{}, Stack: []int{}},
		{Regs: [4]int{1, 2, 3, 4}, Mem: []int{5}, Stack: []int{6, 7, 8, 9}, PC: 31},
		{PC: -1},
		{Regs: [4]int{-5, math.MaxInt, math.MinInt, 1 << 20}, Mem: slices.Repeat([]int{math.MaxInt}, 40), Stack: slices.Repeat([]int{-9}, 9), PC: math.MinInt},
	} {
		c := Begin(s)
		if !equal(c, api.Conf{State: s}) || Final(c) {
			t.Errorf("Begin(%v) = %v", s, c)
		}
	}
}

// 13.1: Final hangs on End alone.
func TestFinal(t *testing.T) {
	for _, end := range append([]int{0, api.EHalt, api.EFault}, oddNumbers...) {
		for _, c := range []api.Conf{{}, busy(), {State: api.State{PC: -1}}, {Buf: []api.Ent{{PC: 3, Done: true, Fault: true}}}, {Rsb: []int{1}}} {
			c.End = end
			if got := Final(c); got != (end != 0) {
				t.Errorf("Final(%v) = %v", c, got)
			}
		}
	}
}

// rows are Confs, and the numbers that tell them.
var rows = []struct {
	c api.Conf
	l []int
}{
	{api.Conf{}, make([]int, 10)},
	{api.Conf{State: api.State{Mem: []int{}, Stack: []int{}}, Buf: []api.Ent{}, Rsb: []int{}}, make([]int, 10)},
	{busy(), busyRow},
	{api.Conf{State: api.State{PC: -1}}, []int{0, 0, 0, 0, 0, 0, -1, 0, 0, 0}},
	{api.Conf{End: api.EFault}, []int{0, 0, 0, 0, 0, 0, 0, 0, 0, 2}},
	{api.Conf{State: api.State{Mem: []int{0}}}, []int{0, 0, 0, 0, 1, 0, 0, 0, 0, 0, 0}},
	{api.Conf{State: api.State{Stack: []int{0}}}, []int{0, 0, 0, 0, 0, 1, 0, 0, 0, 0, 0}},
	{api.Conf{Rsb: []int{0}}, []int{0, 0, 0, 0, 0, 0, 0, 0, 1, 0, 0}},
	{api.Conf{Buf: []api.Ent{{}}}, []int{0, 0, 0, 0, 0, 0, 0, 1, 0, 0, 0, 0, 0, 0, 0, 0, 0, 0}},
	{api.Conf{Buf: []api.Ent{{Done: true, Known: true, Fault: true}}}, []int{0, 0, 0, 0, 0, 0, 0, 1, 0, 0, 0, 0, 0, 1, 1, 1, 0, 0}},
	{api.Conf{Buf: []api.Ent{{PC: 254, Val: 65535, Addr: -2, From: math.MinInt, Next: math.MaxInt}}}, []int{0, 0, 0, 0, 0, 0, 0, 1, 254, 65535, -2, math.MinInt, math.MaxInt, 0, 0, 0, 0, 0}},
	{api.Conf{State: api.State{Regs: [4]int{65535, -1, 254, 253}, PC: -7}, Rsb: []int{300}, End: -3}, []int{65535, -1, 254, 253, 0, 0, -7, 0, 1, 300, -3}},
}

// 13.1: Code is code.Put of all in order, Parse is that back.
func TestRows(t *testing.T) {
	for _, x := range rows {
		b := code.Put(x.l...)
		if got := Code(x.c); !bytes.Equal(got, b) {
			t.Errorf("Code(%v) = %v, want %v", x.c, got, b)
		}
		if got, ok := Parse(b); !ok || !equal(got, x.c) {
			t.Errorf("Parse(%v) = %v, %v, want %v", b, got, ok, x.c)
		}
	}
}

// 13.1: a state that begins is told in bytes, each of them written out.
func TestBytes(t *testing.T) {
	p := read(t, "width 9", "public r1", "public a 2", "call f", "f:", "halt")
	s, _ := arch.Start(p, []int{300, 7, 8})
	c := Begin(s)
	c.Buf, c.Rsb = []api.Ent{{PC: 0, From: -1, Next: 1, Done: true}}, []int{1}
	want := []byte{
		1, 255, 0, 0, 0, 0, 0, 0, 1, 44, 1, 1,
		3, 8, 9, 1, 1,
		2, 1, 1, 1, 0, 2, 2, 1, 1,
		2, 2, 1,
	}
	if got := Code(c); !bytes.Equal(got, want) {
		t.Error(got)
	}
	if got, ok := Parse(want); !ok || !equal(got, c) {
		t.Error(got, ok)
	}
}

// places tells where each number of a Conf is, but its lengths.
func places(c *api.Conf) []*int {
	var l []*int
	for i := range c.State.Regs {
		l = append(l, &c.State.Regs[i])
	}
	for _, list := range [][]int{c.State.Mem, c.State.Stack, c.Rsb} {
		for i := range list {
			l = append(l, &list[i])
		}
	}
	for i := range c.Buf {
		e := &c.Buf[i]
		l = append(l, &e.PC, &e.Val, &e.Addr, &e.From, &e.Next)
	}
	return append(l, &c.State.PC, &c.End)
}

// marks tells where each flag of a Conf is.
func marks(c *api.Conf) []*bool {
	var l []*bool
	for i := range c.Buf {
		e := &c.Buf[i]
		l = append(l, &e.Done, &e.Known, &e.Fault)
	}
	return l
}

func clone(c api.Conf) api.Conf {
	c.State.Mem, c.State.Stack = slices.Clone(c.State.Mem), slices.Clone(c.State.Stack)
	c.Buf, c.Rsb = slices.Clone(c.Buf), slices.Clone(c.Rsb)
	return c
}

// 13.1: each number of a Conf comes back as it stands, whatever it is.
func TestAnyNumber(t *testing.T) {
	from := busy()
	for i := range places(&from) {
		for _, n := range oddNumbers {
			c := busy()
			*places(&c)[i] = n
			if got, ok := Parse(Code(c)); !ok || !equal(got, c) {
				t.Fatalf("Parse(Code(%v)) = %v, %v", c, got, ok)
			}
		}
	}
}

// someNumber is mostly small, so that lengths, flags and what stands in lists can be taken for each other.
func someNumber(r *rand.Rand) int {
	switch r.Intn(10) {
	case 0:
		return oddNumbers[r.Intn(len(oddNumbers))]
	case 1:
		return r.Intn(1 << 16)
	}
	return r.Intn(4) - 1
}

func someNumbers(r *rand.Rand, most int) []int {
	l := make([]int, r.Intn(most+1))
	for i := range l {
		l[i] = someNumber(r)
	}
	return l
}

func someConf(r *rand.Rand) api.Conf {
	c := api.Conf{
		State: api.State{Mem: someNumbers(r, 4), Stack: someNumbers(r, 4)},
		Buf:   make([]api.Ent, r.Intn(4)),
		Rsb:   someNumbers(r, 3),
	}
	for _, n := range places(&c) {
		*n = someNumber(r)
	}
	for _, b := range marks(&c) {
		*b = r.Intn(2) == 0
	}
	return c
}

// 13.1: Confs made at random come back.
func TestBack(t *testing.T) {
	r := rand.New(rand.NewSource(13))
	for range 50000 {
		c := someConf(r)
		if got, ok := Parse(Code(c)); !ok || !equal(got, c) {
			t.Fatalf("Parse(Code(%v)) = %v, %v", c, got, ok)
		}
	}
}

// 13.1: as much as one likes comes back, too.
func TestLong(t *testing.T) {
	c := api.Conf{State: api.State{Mem: make([]int, 70000), Stack: make([]int, 300)}, Buf: make([]api.Ent, 50000), Rsb: make([]int, 1000)}
	r := rand.New(rand.NewSource(131))
	for _, n := range places(&c) {
		*n = someNumber(r)
	}
	for _, b := range marks(&c) {
		*b = r.Intn(2) == 0
	}
	if got, ok := Parse(Code(c)); !ok || !equal(got, c) {
		t.Error("a long Conf does not come back")
	}
}

func refused(t *testing.T, b []byte) {
	t.Helper()
	if c, ok := Parse(b); ok || !nothing(c) {
		t.Errorf("Parse(%v) = %v, %v", b, c, ok)
	}
}

// 13.1: no beginning of what Code tells is told, nor that with anything behind it.
func TestCut(t *testing.T) {
	for _, x := range rows {
		b := Code(x.c)
		for n := range b {
			refused(t, b[:n])
		}
		for n := range x.l {
			refused(t, code.Put(x.l[:n]...))
		}
		for n := range 256 {
			refused(t, append(bytes.Clone(b), byte(n)))
		}
		for _, n := range oddNumbers {
			refused(t, append(bytes.Clone(b), code.Put(n)...))
		}
	}
}

// 13.1: what is no row of numbers is not told.
func TestNoRow(t *testing.T) {
	refused(t, nil)
	refused(t, []byte{})
	for n := range 256 {
		refused(t, []byte{byte(n)})
	}
	ten := slices.Repeat([]byte{1}, 10)
	if _, ok := Parse(ten); !ok {
		t.Fatal("the Conf of nothing is false")
	}
	for i := range ten {
		refused(t, slices.Concat(ten[:i], []byte{255}, ten[i+1:]))
		for n := range 254 {
			refused(t, slices.Concat(ten[:i], []byte{255, 0, 0, 0, 0, 0, 0, 0, byte(n)}, ten[i+1:]))
		}
		refused(t, slices.Concat(ten[:i], slices.Repeat([]byte{255}, 9), ten[i+1:]))
	}
}

// Where busyRow has lengths, and flags.
var (
	lengthsAt = []int{4, 8, 12, 37}
	flagsAt   = []int{18, 19, 20, 26, 27, 28, 34, 35, 36}
)

// 13.1: a flag is 1 or 0, nothing else, and a length is just that.
func TestFlagsLengths(t *testing.T) {
	for at, was := range busyRow {
		l := slices.Clone(busyRow)
		for _, n := range append([]int{4, 6, 7, 8, 9, 28, 29, 36, 37, 40, 41}, oddNumbers...) {
			l[at] = n
			flag := slices.Contains(flagsAt, at)
			length := slices.Contains(lengthsAt, at)
			if n != was && length || n != 0 && n != 1 && flag {
				refused(t, code.Put(l...))
				continue
			}
			if c, ok := Parse(code.Put(l...)); !ok || !bytes.Equal(Code(c), code.Put(l...)) {
				t.Errorf("Parse(Put(%v)) = %v, %v", l, c, ok)
			}
		}
	}
}

// tails calls f with all rows of n of the numbers -1 to 2 behind head.
func tails(head []int, n int, f func(l []int)) {
	if n == 0 {
		f(head)
		return
	}
	for x := -1; x <= 2; x++ {
		tails(append(slices.Clone(head), x), n-1, f)
	}
}

// lists are all rows of up to most of the numbers -1 to 2.
func lists(most int) [][]int {
	var all [][]int
	for n := range most + 1 {
		tails(nil, n, func(l []int) { all = append(all, l) })
	}
	return all
}

// told keeps what Confs their rows tell.
type told map[string]api.Conf

func (m told) add(c api.Conf, l ...[]int) {
	m[fmt.Sprint(slices.Concat(l...))] = c
}

func (m told) check(t *testing.T, l []int) {
	t.Helper()
	want, ok := m[fmt.Sprint(l)]
	got, gotOk := Parse(code.Put(l...))
	if gotOk != ok || !equal(got, want) {
		t.Fatalf("Parse(Put(%v)) = %v, %v, want %v, %v", l, got, gotOk, want, ok)
	}
}

// 13.1: of all rows of up to 12 small numbers just those are read that some Conf has, and as that.
func TestAllRows(t *testing.T) {
	m, regs := told{}, []int{0, 0, 0, 0}
	none := []int{0}
	for pc := -1; pc <= 2; pc++ {
		for end := -1; end <= 2; end++ {
			for _, l := range lists(2) {
				m.add(api.Conf{State: api.State{Mem: l, PC: pc}, End: end}, regs, []int{len(l)}, l, none, []int{pc}, none, none, []int{end})
				m.add(api.Conf{State: api.State{Stack: l, PC: pc}, End: end}, regs, none, []int{len(l)}, l, []int{pc}, none, none, []int{end})
				m.add(api.Conf{State: api.State{PC: pc}, Rsb: l, End: end}, regs, none, none, []int{pc}, none, []int{len(l)}, l, []int{end})
			}
			for _, a := range lists(1) {
				for _, b := range lists(1) {
					m.add(api.Conf{State: api.State{Mem: a, Stack: b, PC: pc}, End: end}, regs, []int{len(a)}, a, []int{len(b)}, b, []int{pc}, none, none, []int{end})
					m.add(api.Conf{State: api.State{Mem: a, PC: pc}, Rsb: b, End: end}, regs, []int{len(a)}, a, none, []int{pc}, none, []int{len(b)}, b, []int{end})
					m.add(api.Conf{State: api.State{Stack: a, PC: pc}, Rsb: b, End: end}, regs, none, []int{len(a)}, a, []int{pc}, none, []int{len(b)}, b, []int{end})
				}
			}
		}
	}
	for n := range 9 {
		tails(regs, n, func(l []int) { m.check(t, l) })
	}
}

// 13.1: likewise of all rows of one Ent, whose last three numbers and what comes behind them are any small ones.
func TestAllEnts(t *testing.T) {
	m, head := told{}, []int{0, 0, 0, 0, 0, 0, 0, 1, 5, 6, 7, 8, 9}
	for flags := range 8 {
		e := api.Ent{PC: 5, Val: 6, Addr: 7, From: 8, Next: 9, Done: flags&4 != 0, Known: flags&2 != 0, Fault: flags&1 != 0}
		for _, l := range lists(2) {
			for end := -1; end <= 2; end++ {
				m.add(api.Conf{Buf: []api.Ent{e}, Rsb: l, End: end}, head, []int{flags >> 2, flags >> 1 & 1, flags & 1, len(l)}, l, []int{end})
			}
		}
	}
	for n := range 8 {
		tails(head, n, func(l []int) { m.check(t, l) })
	}
}

// 13.1: what is read has just the bytes that it is read from, and of others nothing is told.
func TestOneForm(t *testing.T) {
	r := rand.New(rand.NewSource(132))
	taken, not := 0, 0
	for range 200000 {
		b := Code(someConf(r))
		for range 1 + r.Intn(2) {
			at := r.Intn(len(b))
			switch r.Intn(4) {
			case 0:
				b = slices.Delete(b, at, at+1)
			case 1:
				b = slices.Insert(b, at, byte(r.Intn(4)))
			case 2:
				b[at] ^= 1 << r.Intn(8)
			default:
				b[at] = byte(r.Intn(4))
			}
		}
		c, ok := Parse(b)
		if ok {
			taken++
		} else {
			not++
		}
		if ok && !bytes.Equal(Code(c), b) || !ok && !nothing(c) {
			t.Fatalf("Parse(%v) = %v, %v", b, c, ok)
		}
	}
	if taken < 10000 || not < 10000 {
		t.Error("too little was tried", taken, not)
	}
}

// near are Confs that are one change from busy, and others whose numbers are the same, or nearly, but stand in other lists.
func near() []api.Conf {
	all := []api.Conf{busy()}
	change := func(f func(c *api.Conf)) {
		c := busy()
		f(&c)
		all = append(all, c)
	}
	base := busy()
	for i, was := range places(&base) {
		for _, n := range []int{-2, 125, 253, 254, 255, 300, math.MinInt, math.MaxInt} {
			change(func(c *api.Conf) { *places(c)[i] = n })
		}
		change(func(c *api.Conf) { *places(c)[i] = *was + 30 })
	}
	for i := range marks(&base) {
		change(func(c *api.Conf) { b := marks(c)[i]; *b = !*b })
	}
	for _, n := range []int{0, 1, 105} {
		change(func(c *api.Conf) { c.State.Mem = append(c.State.Mem, n) })
		change(func(c *api.Conf) { c.State.Stack = append(c.State.Stack, n) })
		change(func(c *api.Conf) { c.Rsb = append(c.Rsb, n) })
		change(func(c *api.Conf) { c.Buf = append(c.Buf, api.Ent{PC: n}) })
	}
	change(func(c *api.Conf) { c.State.Mem = c.State.Mem[:2] })
	change(func(c *api.Conf) { c.State.Stack = c.State.Stack[:1] })
	change(func(c *api.Conf) { c.State.Mem, c.State.Stack = []int{105, 106}, []int{107, 108, 109} })
	change(func(c *api.Conf) { c.State.Mem, c.State.Stack = nil, []int{105, 106, 107, 108, 109} })
	change(func(c *api.Conf) { c.State.Mem, c.State.Stack = []int{105, 106, 107, 108, 109}, nil })
	change(func(c *api.Conf) { c.State.Stack, c.Rsb = c.Rsb, c.State.Stack })
	change(func(c *api.Conf) { c.State.Stack, c.Rsb = []int{108, 109, 123, 124}, nil })
	change(func(c *api.Conf) { c.State.Stack, c.Rsb = nil, []int{108, 109, 123, 124} })
	change(func(c *api.Conf) { c.Buf = c.Buf[:2] })
	change(func(c *api.Conf) { c.Buf = nil })
	change(func(c *api.Conf) { c.Buf[0], c.Buf[1] = c.Buf[1], c.Buf[0] })
	change(func(c *api.Conf) { slices.Reverse(c.Rsb) })
	return all
}

// 13.2: two Confs that are not the same have other bytes.
func TestSameBytesSameConf(t *testing.T) {
	all := near()
	for i, a := range all {
		for k, b := range all {
			if equal(a, b) != (i == k) {
				t.Fatal("the Confs of this test are wrong", i, k)
			}
			if bytes.Equal(Code(a), Code(b)) != (i == k) {
				t.Errorf("the bytes of %v and %v", a, b)
			}
		}
	}
}

// 13.2: of many small Confs, among which the same one comes again and again, the bytes are the same just if they are.
func TestManySmallConfs(t *testing.T) {
	r := rand.New(rand.NewSource(133))
	seen, again := map[string]api.Conf{}, 0
	few := func() []int { return slices.Repeat([]int{r.Intn(2)}, r.Intn(3)) }
	for range 300000 {
		c := api.Conf{State: api.State{Mem: few(), Stack: few(), PC: r.Intn(2) - 1}, Rsb: few(), End: r.Intn(2)}
		if r.Intn(2) == 0 {
			c.Buf = []api.Ent{{PC: r.Intn(2), From: -1, Done: r.Intn(2) == 0, Known: r.Intn(2) == 0}}
		}
		b := string(Code(c))
		other, ok := seen[b]
		if ok && !equal(other, c) {
			t.Fatalf("%v and %v have the same bytes", other, c)
		}
		if ok {
			again++
		}
		seen[b] = c
	}
	// A list of few is none, one or two of one number, 0 or 1.
	const lists = 5
	if want := lists * lists * lists * 2 * 2 * (1 + 2*2*2); len(seen) != want || again == 0 {
		t.Error(len(seen), want, again)
	}
}

// 13.2: nil and an empty list are the same, and spare room does not count.
func TestEmptyLists(t *testing.T) {
	want := Code(api.Conf{})
	room := []int{1, 2, 3}
	for n := range 16 {
		c := api.Conf{}
		if n&1 != 0 {
			c.State.Mem = room[:0]
		}
		if n&2 != 0 {
			c.State.Stack = room[:0]
		}
		if n&4 != 0 {
			c.Buf = []api.Ent{{PC: 9}}[:0]
		}
		if n&8 != 0 {
			c.Rsb = []int{}
		}
		if got := Code(c); !bytes.Equal(got, want) {
			t.Errorf("Code(%v) = %v", c, got)
		}
	}
	a, b := busy(), busy()
	a.State.Mem, b.State.Mem = []int{5, 6, 7}[:2], []int{5, 6, 8}[:2]
	if !bytes.Equal(Code(a), Code(b)) {
		t.Error("spare room counts")
	}
}

// 13.3: no call panics, and each ends, whatever it is given.
func TestNoPanic(t *testing.T) {
	for _, n := range oddNumbers {
		for _, l := range [][]int{nil, {n}, {n, n, n, n, n}, slices.Repeat([]int{n}, 100)} {
			s := api.State{Regs: [4]int{n, n, n, n}, Mem: l, Stack: l, PC: n}
			e := api.Ent{PC: n, Val: n, Addr: n, From: n, Next: n, Done: true}
			c := api.Conf{State: s, Buf: slices.Repeat([]api.Ent{e}, len(l)), Rsb: l, End: n}
			if got, ok := Parse(Code(c)); !ok || !equal(got, c) {
				t.Fatal(c, got, ok)
			}
			if Final(c) != (n != 0) || Final(Begin(s)) {
				t.Fatal(c)
			}
		}
		for _, k := range oddNumbers {
			for at := range 18 {
				l := make([]int, 18)
				l[at], l[(at*7+3)%18] = n, k
				c, ok := Parse(code.Put(l...))
				if ok && !bytes.Equal(Code(c), code.Put(l...)) || !ok && !nothing(c) {
					t.Fatal(l, c, ok)
				}
			}
		}
	}
	r := rand.New(rand.NewSource(134))
	for range 200000 {
		b := make([]byte, r.Intn(40))
		for i := range b {
			b[i] = byte(r.Intn(256) & -r.Intn(2))
			if r.Intn(3) > 0 {
				b[i] = byte(1 + r.Intn(2))
			}
		}
		if c, ok := Parse(b); ok && !bytes.Equal(Code(c), b) || !ok && !nothing(c) {
			t.Fatal(b, c, ok)
		}
	}
}

// 13.3: a length that the row has no numbers for asks for no room.
func TestNoRoomForNothing(t *testing.T) {
	for _, at := range []int{4, 5, 7, 8} {
		for _, n := range []int{11, 1 << 20, 1 << 40, 1 << 59, 1 << 60, 1<<61 + 1, 1 << 62, math.MaxInt, math.MinInt} {
			l := make([]int, 20)
			l[at] = n
			b := code.Put(l...)
			if got := testing.AllocsPerRun(10, func() { refused(t, b) }); got > 30 {
				t.Errorf("Parse(Put(%v)) makes %v things", l, got)
			}
		}
	}
}

// overlap tells whether a and b share any memory, their spare room too.
func overlap[A, B any](a []A, b []B) bool {
	if cap(a) == 0 || cap(b) == 0 {
		return false
	}
	from, to := uintptr(unsafe.Pointer(unsafe.SliceData(a))), uintptr(unsafe.Pointer(unsafe.SliceData(b)))
	return from < to+uintptr(cap(b))*unsafe.Sizeof(b[:1][0]) && to < from+uintptr(cap(a))*unsafe.Sizeof(a[:1][0])
}

// spoil writes over all that a Conf holds, spare room too.
func spoil(c api.Conf) {
	for _, l := range [][]int{c.State.Mem, c.State.Stack, c.Rsb} {
		for i := range l[:cap(l)] {
			l[:cap(l)][i] = 77
		}
	}
	for i := range c.Buf[:cap(c.Buf)] {
		c.Buf[:cap(c.Buf)][i] = api.Ent{PC: 77}
	}
}

// DOC.md's rule 3: what Begin answers is new memory, and what it is given is not changed.
func TestBeginMemory(t *testing.T) {
	for n := range 4 {
		for room := n; room <= 5; room++ {
			mem, stack := []int{1, 2, 3, 4, 5}, []int{6, 7, 8, 9, 10}
			s := api.State{Mem: mem[:n:room], Stack: stack[:n:room], PC: 3}
			c := Begin(s)
			kept := clone(c)
			if overlap(c.State.Mem, mem) || overlap(c.State.Stack, stack) || overlap(c.State.Mem, c.State.Stack) {
				t.Error("shared", n, room)
			}
			if n > 0 {
				mem[0], stack[0] = 55, 66
				if !equal(c, kept) {
					t.Error("kept", c)
				}
				mem[0], stack[0] = 1, 6
			}
			spoil(c)
			if !slices.Equal(mem, []int{1, 2, 3, 4, 5}) || !slices.Equal(stack, []int{6, 7, 8, 9, 10}) {
				t.Error("changed", n, room, mem, stack)
			}
		}
	}
}

// DOC.md's rule 3: likewise Code, the spare room of what it is given too.
func TestCodeMemory(t *testing.T) {
	whole := busy()
	c := whole
	c.State.Mem, c.State.Stack, c.Buf, c.Rsb = c.State.Mem[:2], c.State.Stack[:1], c.Buf[:2], c.Rsb[:1]
	first, second := Code(c), Code(c)
	want := bytes.Clone(first)
	if overlap(first, second) || overlap(first, whole.State.Mem) || overlap(first, whole.Buf) {
		t.Error("shared")
	}
	for i := range first[:cap(first)] {
		first[:cap(first)][i] = 77
	}
	if !bytes.Equal(second, want) || !equal(whole, busy()) || !bytes.Equal(Code(c), want) {
		t.Error("changed", second, whole)
	}
	c.State.Mem[0], c.Rsb[0], c.Buf[1].Val = 90, 91, 92
	if bytes.Equal(Code(c), want) {
		t.Error("kept")
	}
}

// DOC.md's rule 3: likewise Parse, none of whose lists share any memory, with the bytes, with each other, or with another answer's.
func TestParseMemory(t *testing.T) {
	room := append(code.Put(busyRow...), 1, 2, 3)
	b := room[:len(room)-3]
	was := bytes.Clone(room)
	first, _ := Parse(b)
	second, _ := Parse(b)
	ints := [][]int{first.State.Mem, first.State.Stack, first.Rsb, second.State.Mem, second.State.Stack, second.Rsb}
	for i, x := range ints {
		for _, y := range ints[:i] {
			if overlap(x, y) {
				t.Error("shared", x, y)
			}
		}
		if overlap(x, first.Buf) || overlap(x, second.Buf) || overlap(x, room) {
			t.Error("shared", x)
		}
	}
	if overlap(first.Buf, second.Buf) {
		t.Error("shared", first.Buf)
	}
	spoil(first)
	if !equal(second, busy()) || !bytes.Equal(room, was) {
		t.Error("changed", second, room)
	}
	if again, ok := Parse(b); !ok || !equal(again, busy()) {
		t.Error("kept", again, ok)
	}
}
