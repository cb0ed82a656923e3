package arch

import (
	"bytes"
	"fmt"
	"math"
	"math/rand"
	"reflect"
	"slices"
	"strings"
	"testing"
	"unsafe"

	"augury/api"
	"augury/code"
	"augury/prog"
)

func read(t *testing.T, lines ...string) api.Prog {
	t.Helper()
	p, line, at, ok := prog.Parse(strings.Join(lines, "\n"))
	if !ok {
		t.Fatalf("Parse(%q) is false at %d, %d", lines, line, at)
	}
	return p
}

func start(t *testing.T, p api.Prog, l ...int) api.State {
	t.Helper()
	s, ok := Start(p, l)
	if !ok {
		t.Fatalf("Start(%v, %v) is false", p, l)
	}
	return s
}

// mixed has each sort of place, and told otherwise than in their order.
func mixed(t *testing.T) api.Prog {
	return read(t, "secret r3", "width 4", "secret k 2", "public r1", "public a 3", "secret r0", "secret z 1", "top:", "load r2, [r3 + 1]", "jmp top")
}

var mixedPlaces = []api.Place{
	{Reg: true, N: 0, Secret: true}, {Reg: true, N: 1}, {Reg: true, N: 3, Secret: true},
	{N: 0, Secret: true}, {N: 1, Secret: true}, {N: 2}, {N: 3}, {N: 4}, {N: 5, Secret: true},
}

func clone(s api.State) api.State {
	s.Mem, s.Stack = slices.Clone(s.Mem), slices.Clone(s.Stack)
	return s
}

// equal has nil and an empty list as the same.
func equal(a, b api.State) bool {
	return a.Regs == b.Regs && slices.Equal(a.Mem, b.Mem) && slices.Equal(a.Stack, b.Stack) && a.PC == b.PC
}

// 7.1: Cells is of all regions.
func TestCells(t *testing.T) {
	for _, x := range []struct {
		lines []string
		n     int
	}{
		{[]string{"width 4"}, 0},
		{[]string{"width 4", "public r0", "secret r1"}, 0},
		{[]string{"width 4", "public a 1"}, 1},
		{[]string{"width 4", "secret a 1"}, 1},
		{[]string{"width 4", "secret a 16"}, 16},
		{[]string{"width 16", "public a 9", "secret b 7"}, 16},
		{[]string{"width 4", "public a 2", "secret b 3", "public c 4"}, 9},
		{[]string{"width 1", "public a 1", "secret b 1"}, 2},
	} {
		p := read(t, append(x.lines, "halt")...)
		if n := Cells(p); n != x.n {
			t.Errorf("Cells of %q = %d, want %d", x.lines, n, x.n)
		}
	}
}

// 7.1: Places are told registers by number, then cells by address, which run on from region to region.
func TestPlaces(t *testing.T) {
	if l := Places(mixed(t)); !slices.Equal(l, mixedPlaces) {
		t.Error(l)
	}
	for _, x := range []struct {
		lines []string
		want  []api.Place
	}{
		{[]string{"width 4"}, nil},
		{[]string{"width 4", "public r0"}, []api.Place{{Reg: true}}},
		{[]string{"width 4", "secret r0"}, []api.Place{{Reg: true, Secret: true}}},
		{[]string{"width 4", "public r3", "secret r2"}, []api.Place{{Reg: true, N: 2, Secret: true}, {Reg: true, N: 3}}},
		{[]string{"width 4", "public a 1"}, []api.Place{{}}},
		{[]string{"width 4", "secret a 2"}, []api.Place{{Secret: true}, {N: 1, Secret: true}}},
		{[]string{"width 4", "secret a 1", "public b 2", "secret c 1"}, []api.Place{{Secret: true}, {N: 1}, {N: 2}, {N: 3, Secret: true}}},
	} {
		p := read(t, append(x.lines, "halt")...)
		if l := Places(p); !slices.Equal(l, x.want) {
			t.Errorf("Places of %q = %v, want %v", x.lines, l, x.want)
		}
	}
}

// 7.1: Start puts l in Places in their order, masked, and 0 in all else.
func TestStart(t *testing.T) {
	s := start(t, mixed(t), 1, 2, 3, 4, 5, 6, 7, 8, 9)
	if want := (api.State{Regs: [4]int{1, 2, 0, 3}, Mem: []int{4, 5, 6, 7, 8, 9}}); !equal(s, want) {
		t.Error(s)
	}
	s = start(t, mixed(t), 15, 16, 17, -1, -16, -17, 1000, math.MaxInt, math.MinInt)
	if want := (api.State{Regs: [4]int{15, 0, 0, 1}, Mem: []int{15, 0, 15, 8, 15, 0}}); !equal(s, want) {
		t.Error(s)
	}
	for w := 1; w <= 16; w++ {
		p := read(t, fmt.Sprintf("width %d", w), "secret r2", "public a 2", "halt")
		s := start(t, p, 1<<w, 1<<w-1, -2)
		if want := (api.State{Mem: []int{1<<w - 1, 1<<w - 2}}); !equal(s, want) {
			t.Error(w, s)
		}
	}
	if s := start(t, read(t, "width 4", "halt")); !equal(s, api.State{}) {
		t.Error(s)
	}
}

// 7.1: Start of another length is false, and beside it there is nothing.
func TestStartLength(t *testing.T) {
	for _, p := range []api.Prog{mixed(t), read(t, "width 4", "halt"), read(t, "width 4", "secret r1", "halt"), read(t, "width 4", "public a 16", "halt")} {
		right := len(Places(p))
		for n := range 30 {
			s, ok := Start(p, slices.Repeat([]int{5}, n))
			if ok != (n == right) || !ok && !reflect.DeepEqual(s, api.State{}) {
				t.Errorf("Start of %d numbers for %d places = %v, %v", n, right, s, ok)
			}
		}
	}
}

// 7.1: Labels, Window and Fuel do not count.
func TestBareProg(t *testing.T) {
	p := mixed(t)
	bare := p
	bare.Labels, bare.Window, bare.Fuel = nil, 0, -3
	l := []int{1, 2, 3, 4, 5, 6, 7, 8, 9}
	a, b := start(t, p, l...), start(t, bare, l...)
	if Cells(bare) != 6 || !slices.Equal(Places(bare), mixedPlaces) || !equal(a, b) {
		t.Error(bare, b)
	}
	b.Regs[0]++
	if !Low(bare, a, b) || Low(bare, a, api.State{}) {
		t.Error("Low")
	}
}

// declared is a program made at random, and its Places as they come of what is told.
func declared(t *testing.T, r *rand.Rand) (api.Prog, []api.Place) {
	w := 1 + r.Intn(16)
	lines := []string{fmt.Sprintf("width %d", w)}
	words := []string{"public", "secret"}
	var l []api.Place
	for n := range 4 {
		if k := r.Intn(3); k < 2 {
			lines = append(lines, fmt.Sprintf("%s r%d", words[k], n))
			l = append(l, api.Place{Reg: true, N: n, Secret: k == 1})
		}
	}
	r.Shuffle(len(lines), func(i, j int) { lines[i], lines[j] = lines[j], lines[i] })
	at := 0
	for m := r.Intn(5); m > 0; m-- {
		k, n := r.Intn(2), 1+r.Intn(5)
		if at+n > min(16, 1<<w) {
			break
		}
		lines = append(lines, fmt.Sprintf("%s m%d %d", words[k], m, n))
		for ; n > 0; n-- {
			l = append(l, api.Place{N: at, Secret: k == 1})
			at++
		}
	}
	return read(t, append(lines, "halt")...), l
}

// holds is what s has in a place.
func holds(s api.State, x api.Place) int {
	if x.Reg {
		return s.Regs[x.N]
	}
	return s.Mem[x.N]
}

// 7.1: Cells, Places and Start of many programs.
func TestManyProgs(t *testing.T) {
	r := rand.New(rand.NewSource(7))
	for range 3000 {
		p, places := declared(t, r)
		if l := Places(p); !slices.Equal(l, places) {
			t.Fatalf("Places(%v) = %v, want %v", p, l, places)
		}
		var l []int
		want := api.State{Mem: make([]int, Cells(p))}
		told := 0
		for _, x := range places {
			n := r.Intn(200000) - 100000
			l = append(l, n)
			n = (n%(1<<p.W) + 1<<p.W) % (1 << p.W)
			if x.Reg {
				want.Regs[x.N] = n
				told++
			} else {
				want.Mem[x.N] = n
			}
		}
		if Cells(p) != len(places)-told {
			t.Fatalf("Cells(%v) = %d, of the places %v", p, Cells(p), places)
		}
		if s := start(t, p, l...); !equal(s, want) {
			t.Fatalf("Start(%v, %v) = %v, want %v", p, l, s, want)
		}
	}
}

// 7.1: Code is registers, Mem and Stack behind their lengths, and PC.
func TestCode(t *testing.T) {
	for _, x := range []struct {
		s api.State
		b []byte
	}{
		{api.State{}, []byte{1, 1, 1, 1, 1, 1, 1}},
		{api.State{Mem: []int{}, Stack: []int{}}, []byte{1, 1, 1, 1, 1, 1, 1}},
		{api.State{Regs: [4]int{1, 2, 3, 4}, Mem: []int{5, 6}, Stack: []int{7, 8, 9}, PC: 10}, []byte{2, 3, 4, 5, 3, 6, 7, 4, 8, 9, 10, 11}},
		{api.State{Mem: []int{1}}, []byte{1, 1, 1, 1, 2, 2, 1, 1}},
		{api.State{Stack: []int{1}}, []byte{1, 1, 1, 1, 1, 2, 2, 1}},
		{api.State{PC: -1}, []byte{1, 1, 1, 1, 1, 1, 0}},
		{api.State{Regs: [4]int{0, 300}, PC: 32}, []byte{1, 255, 0, 0, 0, 0, 0, 0, 1, 44, 1, 1, 1, 1, 33}},
	} {
		if b := Code(x.s); !bytes.Equal(b, x.b) {
			t.Errorf("Code(%v) = %v, want %v", x.s, b, x.b)
		}
	}
	if b := Code(start(t, mixed(t), 1, 2, 3, 4, 5, 6, 7, 8, 9)); !bytes.Equal(b, []byte{2, 3, 1, 4, 7, 5, 6, 7, 8, 9, 10, 1, 1}) {
		t.Error(b)
	}
}

// 7.1: Code is code.Put of all numbers, however many there are and however great; two states have the same bytes just if they are the same.
func TestCodeMany(t *testing.T) {
	r := rand.New(rand.NewSource(8))
	var states []api.State
	for range 400 {
		s := anyState(r, r.Intn(4))
		l := append([]int{}, s.Regs[:]...)
		l = append(append(l, len(s.Mem)), s.Mem...)
		l = append(append(l, len(s.Stack)), s.Stack...)
		if b := Code(s); !bytes.Equal(b, code.Put(append(l, s.PC)...)) {
			t.Fatalf("Code(%v) = %v", s, b)
		}
		states = append(states, s)
	}
	for _, a := range states {
		for _, b := range states {
			if bytes.Equal(Code(a), Code(b)) != equal(a, b) {
				t.Fatal(a, b)
			}
		}
	}
	long := api.State{Mem: slices.Repeat([]int{1, 1 << 40}, 50000), Stack: slices.Repeat([]int{-7}, 300)}
	if n := len(Code(long)); n != 4+9+50000*10+9+300*9+1 {
		t.Error(n)
	}
}

// anyState has few numbers, so that two are often alike.
func anyState(r *rand.Rand, cells int) api.State {
	s := api.State{PC: r.Intn(2)}
	s.Regs[r.Intn(4)] = r.Intn(2) * 1000
	for range cells {
		s.Mem = append(s.Mem, r.Intn(2))
	}
	for range r.Intn(2) {
		s.Stack = append(s.Stack, r.Intn(2))
	}
	return s
}

// 7.1: Low looks away from Secret places, and from nothing else.
func TestLow(t *testing.T) {
	p := mixed(t)
	a := start(t, p, 1, 2, 3, 4, 5, 6, 7, 8, 9)
	a.Stack, a.PC = []int{1, 2}, 1
	for i, x := range []struct {
		turn func(s *api.State)
		ok   bool
	}{
		{func(s *api.State) {}, true},
		{func(s *api.State) { s.Regs[0] = 0 }, true},
		{func(s *api.State) { s.Regs[1] = 0 }, false},
		{func(s *api.State) { s.Regs[2] = 1 }, false},
		{func(s *api.State) { s.Regs[3] = 0 }, true},
		{func(s *api.State) { s.Mem[0] = 0 }, true},
		{func(s *api.State) { s.Mem[1] = 0 }, true},
		{func(s *api.State) { s.Mem[2] = 0 }, false},
		{func(s *api.State) { s.Mem[3] = 0 }, false},
		{func(s *api.State) { s.Mem[4] = 0 }, false},
		{func(s *api.State) { s.Mem[5] = 0 }, true},
		{func(s *api.State) { s.Regs[0], s.Regs[3], s.Mem[0], s.Mem[1], s.Mem[5] = 0, 0, 0, 0, 0 }, true},
		{func(s *api.State) { s.Regs[0], s.Mem[5], s.Regs[1] = 0, 0, 0 }, false},
		{func(s *api.State) { s.Regs[1] += 16 }, false},
		{func(s *api.State) { s.Mem[2] -= 16 }, false},
		{func(s *api.State) { s.Regs[2] = 16 }, false},
		{func(s *api.State) { s.Regs[3] = -1 << 60 }, true},
		{func(s *api.State) { s.PC = 0 }, false},
		{func(s *api.State) { s.Stack = nil }, false},
		{func(s *api.State) { s.Stack[0] = 2 }, false},
		{func(s *api.State) { s.Stack = s.Stack[:1] }, false},
		{func(s *api.State) { s.Stack = append(s.Stack, 0) }, false},
		{func(s *api.State) { s.Mem = s.Mem[:5] }, false},
		{func(s *api.State) { s.Mem = append(s.Mem, 0) }, false},
		{func(s *api.State) { s.Mem = nil }, false},
	} {
		b := clone(a)
		x.turn(&b)
		if Low(p, a, b) != x.ok || Low(p, b, a) != x.ok || !Low(p, b, b) {
			t.Errorf("%d: Low of %v and %v is not %v", i, a, b, x.ok)
		}
	}
}

// 7.1: of states whose Mem is not Cells long Low asks whether they are the same, Secret places with the rest.
func TestLowOtherMem(t *testing.T) {
	p := mixed(t)
	for n := range 12 {
		a := api.State{Regs: [4]int{1, 2, 3, 4}, Mem: make([]int, n), Stack: []int{3}, PC: 1}
		if !Low(p, a, clone(a)) {
			t.Error(n, "the same")
		}
		for i, turn := range []func(s *api.State){
			func(s *api.State) { s.Regs[0]++ },
			func(s *api.State) { s.Regs[3]++ },
			func(s *api.State) { s.Mem[0]++ },
			func(s *api.State) { s.Mem[n-1]++ },
		} {
			if n == 0 && i > 1 {
				continue
			}
			b := clone(a)
			turn(&b)
			if want := n == 6; Low(p, a, b) != want || Low(p, b, a) != want {
				t.Error(n, i, "is not", want)
			}
		}
		for m := range 12 {
			if b := (api.State{Regs: a.Regs, Mem: make([]int, m), Stack: []int{3}, PC: 1}); Low(p, a, b) != (n == m) {
				t.Error(n, m)
			}
		}
	}
	bare := read(t, "width 4", "halt")
	a := api.State{Mem: []int{1}}
	if !Low(bare, a, clone(a)) || Low(bare, a, api.State{}) || Low(bare, a, api.State{Mem: []int{2}}) || !Low(bare, api.State{}, api.State{Mem: []int{}, Stack: []int{}}) {
		t.Error("bare")
	}
}

// looksAlike is Low, place by place.
func looksAlike(p api.Prog, places []api.Place, a, b api.State) bool {
	if len(a.Mem) != Cells(p) || len(b.Mem) != Cells(p) {
		return equal(a, b)
	}
	a, b = clone(a), clone(b)
	for _, x := range places {
		if !x.Secret && holds(a, x) != holds(b, x) {
			return false
		}
		if x.Reg {
			a.Regs[x.N], b.Regs[x.N] = 0, 0
		} else {
			a.Mem[x.N], b.Mem[x.N] = 0, 0
		}
	}
	return equal(a, b)
}

// 7.1: Low of many states, of all lengths.
func TestLowMany(t *testing.T) {
	r := rand.New(rand.NewSource(9))
	seen := [2]int{}
	for range 20000 {
		p, places := declared(t, r)
		a := anyState(r, max(0, Cells(p)+[]int{-1, 0, 0, 0, 0, 0, 0, 1}[r.Intn(8)]))
		b := clone(a)
		for range r.Intn(3) {
			n := r.Intn(3)
			switch k := r.Intn(12); {
			case k == 0:
				b.PC = n
			case k == 1:
				b.Stack = append(b.Stack, n)
			case k < 6:
				b.Regs[r.Intn(4)] = n
			case k < 7:
				b.Mem = append(b.Mem, n)
			case len(b.Mem) > 0:
				b.Mem[r.Intn(len(b.Mem))] = n
			}
		}
		want := looksAlike(p, places, a, b)
		if Low(p, a, b) != want || Low(p, b, a) != want {
			t.Fatalf("Low(%v, %v, %v) is not %v", p, a, b, want)
		}
		if !equal(a, b) && want {
			seen[1]++
		} else if !want {
			seen[0]++
		}
	}
	if seen[0] < 1000 || seen[1] < 1000 {
		t.Error("too few of one sort", seen)
	}
}

// rows are all rows of n words of two places.
func rows(n int) [][]int {
	all := [][]int{nil}
	for range n {
		var more [][]int
		for _, l := range all {
			for v := range 4 {
				more = append(more, append(slices.Clone(l), v))
			}
		}
		all = more
	}
	return all
}

// 7.2: two states at the beginning look alike just if they hold the same in what is public: an observer knows that, and nothing of what is secret.
func TestPublicIsKnown(t *testing.T) {
	for _, p := range []api.Prog{
		read(t, "width 2", "public r0", "secret r2", "public a 1", "secret k 1", "halt"),
		read(t, "width 2", "secret r0", "secret r1", "secret k 1", "halt"),
		read(t, "width 2", "public r3", "public a 2", "halt"),
		read(t, "width 2", "halt"),
	} {
		places := Places(p)
		all := rows(len(places))
		for _, l := range all {
			for _, m := range all {
				want := true
				for i, x := range places {
					want = want && (x.Secret || l[i] == m[i])
				}
				if Low(p, start(t, p, l...), start(t, p, m...)) != want {
					t.Fatalf("Low of %v and %v in %v is not %v", l, m, places, want)
				}
			}
		}
	}
}

// oddProgs are programs that can't be.
func oddProgs() []api.Prog {
	l := []api.Prog{{}, {W: -1}, {W: 17}, {W: math.MaxInt}, {W: math.MinInt}}
	odd := []int{math.MinInt, -17, -1, 0, 1, 15, 16, 17, 100, 1 << 31, math.MaxInt}
	for _, w := range []int{-1, 0, 1, 4, 17} {
		for _, n := range odd {
			p := api.Prog{W: w, Regs: [4]int{n, 1, 2, -n}, Ins: []api.Ins{{Kind: n, Op: n, D: n, Target: n}}}
			for _, m := range odd {
				p.Mems = append(p.Mems, api.Mem{N: n, Secret: n > 9}, api.Mem{N: m})
				l = append(l, p)
			}
			p.Mems = []api.Mem{{N: n}, {N: n}, {N: n}, {Name: "a", N: n}}
			l = append(l, p)
		}
	}
	return append(l, api.Prog{W: 4, Mems: slices.Repeat([]api.Mem{{N: math.MaxInt}, {N: math.MinInt}, {N: 1, Secret: true}}, 100000)})
}

func oddStates() []api.State {
	odd := []int{math.MinInt, -1, 0, 1 << 40, math.MaxInt}
	l := []api.State{{}, {Mem: []int{}, Stack: []int{}}, {PC: math.MinInt}, {PC: math.MaxInt, Stack: odd}, {Mem: make([]int, 100000), Stack: make([]int, 100000)}}
	for n := range 18 {
		l = append(l, api.State{Regs: [4]int(odd[:4]), Mem: slices.Repeat(odd[:1], n), Stack: odd})
	}
	return l
}

// 7.3: no call panics, and each ends, whatever it is given.
func TestNoPanic(t *testing.T) {
	for _, p := range oddProgs() {
		n := len(Places(p))
		if n < Cells(p) || n > Cells(p)+4 || n > 1000 {
			t.Fatalf("%d places, %d cells", n, Cells(p))
		}
		for _, k := range []int{0, 1, n - 1, n, n + 1, 5000} {
			s, ok := Start(p, make([]int, max(k, 0)))
			if !ok && !reflect.DeepEqual(s, api.State{}) {
				t.Fatal(s)
			}
			Low(p, s, api.State{})
		}
		states := oddStates()
		for i, a := range states {
			Low(p, a, states[(i+1)%len(states)])
			if !Low(p, a, clone(a)) {
				t.Fatal("a state does not look as itself", p, i)
			}
		}
	}
	for _, s := range oddStates() {
		if l, ok := code.Get(Code(s)); !ok || len(l) != 7+len(s.Mem)+len(s.Stack) {
			t.Error(s)
		}
	}
}

// spared is l with spare room behind it that no call may write to.
func spared(l ...int) []int {
	long := append(slices.Clone(l), 99, 99, 99)
	return long[:len(l)]
}

func untouched(l []int, want ...int) bool {
	return slices.Equal(l, want) && slices.Equal(l[:len(l)+3][len(l):], []int{99, 99, 99})
}

// DOC.md's rule 3: what is handed in is not changed and not kept; what is answered is new.
func TestMemory(t *testing.T) {
	p := mixed(t)
	mems := append(slices.Clone(p.Mems), api.Mem{Name: "spare", N: 99})
	kept := slices.Clone(mems)
	p.Mems = mems[:len(p.Mems)]
	l := spared(1, 2, 3, 4, 5, 6, 70, 8, 9)
	s, again := start(t, p, l...), start(t, p, l...)
	if !untouched(l, 1, 2, 3, 4, 5, 6, 70, 8, 9) || shares(s.Mem, l) || shares(s.Mem, again.Mem) || shares(s.Mem, s.Stack) {
		t.Error("Start")
	}
	places, more := Places(p), Places(p)
	_ = append(places, api.Place{N: 50})
	places[0].N = 40
	if !slices.Equal(more, mixedPlaces) || !slices.Equal(Places(p), mixedPlaces) {
		t.Error("Places")
	}
	a := api.State{Mem: spared(1, 2, 3, 4, 5, 6), Stack: spared(1, 2)}
	b := api.State{Mem: spared(7, 8, 3, 4, 5, 9), Stack: spared(1, 2)}
	if !Low(p, a, b) || !untouched(a.Mem, 1, 2, 3, 4, 5, 6) || !untouched(b.Mem, 7, 8, 3, 4, 5, 9) || !untouched(a.Stack, 1, 2) || !untouched(b.Stack, 1, 2) {
		t.Error("Low", a, b)
	}
	row := Code(a)
	other := Code(a)
	row[0], _ = 77, append(row, 77)
	if !untouched(a.Mem, 1, 2, 3, 4, 5, 6) || !untouched(a.Stack, 1, 2) || !bytes.Equal(other, Code(a)) || other[0] != 1 {
		t.Error("Code")
	}
	if !slices.Equal(mems, kept) {
		t.Error("the program's regions are changed")
	}
}

// shares tells whether two lists, their spare room too, lie in the same memory.
func shares(a, b []int) bool {
	if cap(a) == 0 || cap(b) == 0 {
		return false
	}
	x, y := uintptr(unsafe.Pointer(unsafe.SliceData(a))), uintptr(unsafe.Pointer(unsafe.SliceData(b)))
	return x < y+uintptr(cap(b))*8 && y < x+uintptr(cap(a))*8
}
