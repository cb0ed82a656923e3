package prog

import (
	"fmt"
	"math"
	"math/rand"
	"reflect"
	"regexp"
	"slices"
	"strings"
	"testing"
	"unsafe"

	"augury/api"
	"augury/syns"
)

func reg(n int) api.Val { return api.Val{Reg: true, N: n} }

func num(n int) api.Val { return api.Val{N: n} }

func right(t *testing.T, text string, want api.Prog) {
	t.Helper()
	got, line, at, ok := Parse(text)
	if !equal(got, want) || line != 0 || at != 0 || !ok {
		t.Errorf("Parse(%q) = %v, %d, %d, %v, want %v", text, got, line, at, ok, want)
	}
}

func wrong(t *testing.T, text string, line, at int) {
	t.Helper()
	got, gotLine, gotAt, ok := Parse(text)
	if !reflect.DeepEqual(got, api.Prog{}) || gotLine != line || gotAt != at || ok {
		t.Errorf("Parse(%q) = %v, %d, %d, %v, want false, %d, %d", text, got, gotLine, gotAt, ok, line, at)
	}
}

func read(t *testing.T, text string) api.Prog {
	t.Helper()
	p, line, at, ok := Parse(text)
	if !ok {
		t.Fatalf("Parse(%q) is false at %d, %d", text, line, at)
	}
	return p
}

func printsNot(t *testing.T, p api.Prog) {
	t.Helper()
	if s, ok := Print(p); s != "" || ok {
		t.Errorf("Print(%v) = %q, %v, want false", p, s, ok)
	}
	if Ok(p) {
		t.Errorf("Ok(%v)", p)
	}
}

// equal has nil and an empty list as the same.
func equal(a, b api.Prog) bool {
	return [3]int{a.W, a.Window, a.Fuel} == [3]int{b.W, b.Window, b.Fuel} && a.Regs == b.Regs &&
		slices.Equal(a.Mems, b.Mems) && slices.Equal(a.Labels, b.Labels) && slices.Equal(a.Ins, b.Ins)
}

func clone(p api.Prog) api.Prog {
	p.Mems, p.Labels, p.Ins = slices.Clone(p.Mems), slices.Clone(p.Labels), slices.Clone(p.Ins)
	return p
}

var halt = []api.Ins{{Kind: 11}}

// small is what "width 4\nhalt" is, with what change tells more.
func small(change func(p *api.Prog)) api.Prog {
	p := api.Prog{W: 4, Window: 1, Fuel: 50, Ins: slices.Clone(halt)}
	change(&p)
	return p
}

const whole = `; all that may be told
fuel 1000
secret r3
width 16
public r0

window 6
secret key 9 ; nine
public t 7
	in:
top:
load r1, [r0 + 9]
store [r3 + 1], r2
mid: ; of it
br lt r1, 4, out
cmov r2, r1, 70000
call top

mov r2, 5
jmp mid
ind r2
ret
fence
halt
out:
end:
`

// wholeProg is whole's, kinds written out.
func wholeProg() api.Prog {
	return api.Prog{
		W: 16, Window: 6, Fuel: 1000, Regs: [4]int{1, 0, 0, 2},
		Mems:   []api.Mem{{Name: "key", Secret: true, N: 9}, {Name: "t", N: 7}},
		Labels: []api.Label{{Name: "in"}, {Name: "top"}, {Name: "mid", At: 2}, {Name: "out", At: 11}, {Name: "end", At: 11}},
		Ins: []api.Ins{
			{Kind: 2, D: 1, A: reg(0), B: num(9)},
			{Kind: 3, D: 2, A: reg(3), B: num(1)},
			{Kind: 5, Op: 9, A: reg(1), B: num(4), Target: 11},
			{Kind: 4, D: 2, A: reg(1), B: num(70000)},
			{Kind: 8, Target: 0},
			{Kind: 1, Op: 4, D: 2, A: num(5)},
			{Kind: 6, Target: 2},
			{Kind: 7, A: reg(2)},
			{Kind: 9}, {Kind: 10}, {Kind: 11},
		},
	}
}

const wholePrinted = `width 16
window 6
fuel 1000
public r0
secret r3
secret key 9
public t 7
in:
top:
load r1, [r0 + 9]
store [r3 + 1], r2
mid:
br lt r1, 4, out
cmov r2, r1, 70000
call in
or r2, 5, 0
jmp mid
ind r2
ret
fence
halt
out:
end:
`

// 6.1: a text with all that may be told, in any order that may be.
func TestParse(t *testing.T) {
	right(t, whole, wholeProg())
	right(t, strings.TrimSuffix(whole, "\n"), wholeProg())
	right(t, strings.ReplaceAll(whole, "\n", "\n ; more\n\n"), wholeProg())
	right(t, wholePrinted, wholeProg())
}

// 6.1: lines end with a line feed, or with the text; an end behind the last feed is no line.
func TestLines(t *testing.T) {
	p := small(func(*api.Prog) {})
	right(t, "width 4\nhalt", p)
	right(t, "width 4\nhalt\n", p)
	right(t, "\n\nwidth 4\n\n \n;\nhalt\n\n", p)
	wrong(t, "", 0, 0)
	wrong(t, " ", 1, 0)
	wrong(t, "\n", 1, 0)
	wrong(t, "\n\n", 2, 0)
	wrong(t, "\n\n;", 3, 0)
	wrong(t, "width 4", 1, 0)
	wrong(t, "width 4\n", 1, 0)
	wrong(t, "width 4\n\n", 2, 0)
	wrong(t, "width 4\n;", 2, 0)
	wrong(t, "width 4\rhalt", 0, 7)
	wrong(t, "width 4\n\rhalt", 1, 0)
	wrong(t, "width 4\x00\nhalt", 0, 7)
	wrong(t, "width 4 halt", 0, 8)
}

// 6.1: what is not told: Window 1, Fuel 50, Regs 0, no region, no label.
func TestNotTold(t *testing.T) {
	right(t, "width 4\nhalt", small(func(p *api.Prog) {}))
	right(t, "width 4\nwindow 3\nhalt", small(func(p *api.Prog) { p.Window = 3 }))
	right(t, "width 4\nfuel 3\nhalt", small(func(p *api.Prog) { p.Fuel = 3 }))
	right(t, "width 4\npublic r2\nhalt", small(func(p *api.Prog) { p.Regs[2] = 1 }))
	right(t, "width 4\nsecret r2\nhalt", small(func(p *api.Prog) { p.Regs[2] = 2 }))
	right(t, "public r1\nwidth 4\nsecret r2\nhalt", small(func(p *api.Prog) { p.Regs = [4]int{0, 1, 2, 0} }))
	wrong(t, "halt", 1, 0)
	wrong(t, "fuel 3\nwindow 2\nhalt\n", 3, 0)
	wrong(t, "width 4\nfuel 3\nwindow 2\nx:\ny:\n", 5, 0)
}

// 6.1: width, window and fuel, each once and within its bounds.
func TestBounds(t *testing.T) {
	for _, x := range []struct {
		word string
		most int
		of   func(p *api.Prog) *int
	}{
		{"width", 16, func(p *api.Prog) *int { return &p.W }},
		{"window", 6, func(p *api.Prog) *int { return &p.Window }},
		{"fuel", 1000, func(p *api.Prog) *int { return &p.Fuel }},
	} {
		rest := "width 4\nhalt"
		if x.word == "width" {
			rest = "halt"
		}
		for n := range 1100 {
			text := fmt.Sprintf("\n%s %d\n%s", x.word, n, rest)
			if n < 1 || n > x.most {
				wrong(t, text, 1, 0)
			} else {
				right(t, text, small(func(p *api.Prog) { *x.of(p) = n }))
			}
		}
		wrong(t, x.word+" 99999\n", 0, 0)
		wrong(t, x.word+" 100000\n", 0, len(x.word)+6)
		wrong(t, x.word+" 1\n\n"+x.word+" 1\n"+rest, 2, 0)
		wrong(t, x.word+" 1\n"+x.word+" 2\n"+rest, 1, 0)
		wrong(t, x.word+" 1\n"+x.word+" 0\n"+rest, 1, 0)
	}
}

// 6.1: a register told twice, public or secret.
func TestRegisters(t *testing.T) {
	for n := range 4 {
		for k, a := range []string{"public", "secret"} {
			right(t, fmt.Sprintf("width 4\n%s r%d\nhalt", a, n), small(func(p *api.Prog) { p.Regs[n] = k + 1 }))
			for _, b := range []string{"public", "secret"} {
				wrong(t, fmt.Sprintf("%s r%d\nwidth 4\n\n%s r%d\nhalt", a, n, b, n), 3, 0)
				m := (n + 1) % 4
				p := read(t, fmt.Sprintf("%s r%d\nwidth 4\n\n%s r%d\nhalt", a, n, b, m))
				if p.Regs[n] == 0 || p.Regs[m] == 0 || (p.Regs[n] == p.Regs[m]) != (a == b) {
					t.Error(a, b, p.Regs)
				}
			}
		}
	}
}

// 6.1: a region behind the width, of 1 to 16 cells, all of no more than 16 and Size of the width.
func TestRegions(t *testing.T) {
	for w := 1; w <= 16; w++ {
		most := min(16, 1<<w)
		for n := range 40 {
			text := fmt.Sprintf("width %d\nsecret a %d\nhalt", w, n)
			if n < 1 || n > most {
				wrong(t, text, 1, 0)
				continue
			}
			right(t, text, small(func(p *api.Prog) { p.W, p.Mems = w, []api.Mem{{Name: "a", Secret: true, N: n}} }))
			right(t, fmt.Sprintf("width %d\n%shalt", w, ones(n)), small(func(p *api.Prog) { p.W, p.Mems = w, oneMems(n) }))
			for m := range 20 {
				text := fmt.Sprintf("width %d\npublic a %d\npublic b %d\nhalt", w, n, m)
				if m < 1 || n+m > most {
					wrong(t, text, 2, 0)
					continue
				}
				right(t, text, small(func(p *api.Prog) { p.W, p.Mems = w, []api.Mem{{Name: "a", N: n}, {Name: "b", N: m}} }))
			}
		}
		wrong(t, fmt.Sprintf("width %d\n%s\npublic a 99999\nhalt", w, ones(most)), most+2, 0)
		wrong(t, fmt.Sprintf("width %d\n%shalt", w, ones(most+1)), most+1, 0)
	}
	wrong(t, "secret a 1\nwidth 4\nhalt", 0, 0)
	wrong(t, "fuel 4\n\nsecret a 1\nhalt", 2, 0)
}

// ones are n regions of one cell each.
func ones(n int) string {
	s := ""
	for k := range n {
		s += fmt.Sprintf("public m%d 1\n", k)
	}
	return s
}

func oneMems(n int) []api.Mem {
	var l []api.Mem
	for k := range n {
		l = append(l, api.Mem{Name: fmt.Sprintf("m%d", k), N: 1})
	}
	return l
}

// 6.1: a name stands for one region or label.
func TestNames(t *testing.T) {
	wrong(t, "width 4\npublic a 1\nsecret a 1\nhalt", 2, 0)
	wrong(t, "width 4\npublic a 1\nsecret b 1\npublic a 1\nhalt", 3, 0)
	wrong(t, "width 4\npublic a 1\nhalt\na:", 3, 0)
	wrong(t, "width 4\na:\na:\nhalt", 2, 0)
	wrong(t, "width 4\na:\nhalt\nb:\na:", 4, 0)
	right(t, "width 4\npublic a 1\nb:\nhalt\naa:", small(func(p *api.Prog) {
		p.Mems, p.Labels = []api.Mem{{Name: "a", N: 1}}, []api.Label{{Name: "b"}, {Name: "aa", At: 1}}
	}))
}

// 6.1: what is told of the whole stands ahead of the first label and instruction.
func TestTooLate(t *testing.T) {
	for _, s := range []string{"width 4", "window 1", "fuel 50", "public r0", "secret r0", "public a 1", "secret a 1"} {
		wrong(t, "x:\n"+s+"\nhalt", 1, 0)
		wrong(t, "halt\n\n"+s+"\nhalt", 2, 0)
		if s != "width 4" {
			wrong(t, "width 4\nx:\n"+s+"\nhalt", 2, 0)
			wrong(t, "width 4\nret\n;\n"+s+"\nhalt", 3, 0)
			read(t, "width 4\n;\n"+s+"\nx:\nhalt")
		}
	}
}

// 6.1: at most 32 instructions; labels and empty lines do not count.
func TestMostIns(t *testing.T) {
	for n := 1; n < 40; n++ {
		text := "width 4\n" + strings.Repeat("halt\n", n)
		if n > 32 {
			wrong(t, text, 33, 0)
			continue
		}
		right(t, text, small(func(p *api.Prog) { p.Ins = slices.Repeat(halt, n) }))
	}
	many := "width 4\n"
	for k := range 32 {
		many += fmt.Sprintf("l%d:\n\nk%d:\nhalt\n", k, k)
	}
	if p := read(t, many+"z:"); len(p.Labels) != 65 || p.Labels[64].At != 32 || p.Labels[63].At != 31 {
		t.Error(p)
	}
	wrong(t, many+"z:\njmp nowhere", 130, 0)
	wrong(t, many+"z:\nhalt\nä", 130, 0)
	wrong(t, many+"z:\nä", 130, 0)
	wrong(t, many+"z:\nhalt ä", 130, 5)
	wrong(t, many+"z:\nfuel 3", 130, 0)
}

// 6.1: an instruction goes to a label, ahead of it or behind it.
func TestTargets(t *testing.T) {
	for _, x := range []struct {
		s string
		i api.Ins
	}{{"jmp", api.Ins{Kind: 6}}, {"call", api.Ins{Kind: 8}}, {"br eq r0, 3,", api.Ins{Kind: 5, Op: 10, A: reg(0), B: num(3)}}} {
		to := func(n int) api.Ins { x.i.Target = n; return x.i }
		right(t, "width 4\na:\n"+x.s+" a", small(func(p *api.Prog) {
			p.Labels, p.Ins = []api.Label{{Name: "a"}}, []api.Ins{to(0)}
		}))
		right(t, "width 4\n"+x.s+" b\nhalt\na:\nret\nb:\n", small(func(p *api.Prog) {
			p.Labels, p.Ins = []api.Label{{Name: "a", At: 2}, {Name: "b", At: 3}}, []api.Ins{to(3), {Kind: 11}, {Kind: 9}}
		}))
		wrong(t, "width 4\n\n"+x.s+" a\n", 2, 0)
		wrong(t, "width 4\npublic a 3\n"+x.s+" a\n", 2, 0)
		wrong(t, "width 4\nb:\nhalt\n"+x.s+" b\n\n  "+x.s+" a\n"+x.s+" c\n", 5, 0)
		wrong(t, "width 4\n"+x.s+" a\nhalt 5", 2, 5)
		wrong(t, x.s+" a\nhalt\n", 2, 0)
	}
}

// 6.1: the first line that is wrong goes ahead of all else; in it syns goes ahead.
func TestFirst(t *testing.T) {
	wrong(t, "fuel 0\nä", 0, 0)
	wrong(t, "fuel\nwindow 9", 0, 4)
	wrong(t, "  é\nwindow 9", 0, 2)
	wrong(t, "x:\nfuel 9\n\nä", 1, 0)
	wrong(t, "x:\nfuel 9 9\n", 1, 7)
	wrong(t, "jmp x\nadd r0, r1 ; €", 1, 14)
	wrong(t, "jmp x\n", 1, 0)
	wrong(t, "width 4\n\njmp x\njmp y\ny:\n", 2, 0)
	wrong(t, "width 4\njmp y\ny:\njmp x\nwidth 3", 4, 0)
}

// 6.2: how a program is told.
func TestPrint(t *testing.T) {
	for _, x := range []struct {
		p api.Prog
		s string
	}{
		{wholeProg(), wholePrinted},
		{small(func(*api.Prog) {}), "width 4\nwindow 1\nfuel 50\nhalt\n"},
		{small(func(p *api.Prog) { p.Regs = [4]int{2, 2, 1, 1} }), "width 4\nwindow 1\nfuel 50\nsecret r0\nsecret r1\npublic r2\npublic r3\nhalt\n"},
		{small(func(p *api.Prog) { p.Labels = []api.Label{{Name: "z", At: 1}, {Name: "a", At: 1}} }), "width 4\nwindow 1\nfuel 50\nhalt\nz:\na:\n"},
		{small(func(p *api.Prog) { p.Mems = []api.Mem{{Name: "z", N: 15}, {Name: "a", Secret: true, N: 1}} }), "width 4\nwindow 1\nfuel 50\npublic z 15\nsecret a 1\nhalt\n"},
	} {
		if s, ok := Print(x.p); s != x.s || !ok || !Ok(x.p) {
			t.Errorf("Print(%v) = %q, %v, want %q", x.p, s, ok, x.s)
		}
	}
}

// 6.2: what no text tells.
func TestPrintNot(t *testing.T) {
	printsNot(t, api.Prog{})
	for _, change := range changes() {
		for _, p := range []api.Prog{wholeProg(), small(func(*api.Prog) {})} {
			change(&p)
			asModel(t, p)
		}
	}
	for _, change := range []func(p *api.Prog){
		func(p *api.Prog) { p.W = 0 },
		func(p *api.Prog) { p.W = 17 },
		func(p *api.Prog) { p.W = 3 },
		func(p *api.Prog) { p.Window = 0 },
		func(p *api.Prog) { p.Window = 7 },
		func(p *api.Prog) { p.Fuel = 0 },
		func(p *api.Prog) { p.Fuel = 1001 },
		func(p *api.Prog) { p.Regs[1] = 3 },
		func(p *api.Prog) { p.Regs[1] = -1 },
		func(p *api.Prog) { p.Mems[0].N = 0 },
		func(p *api.Prog) { p.Mems[0].N = 10 },
		func(p *api.Prog) { p.Mems[0].N = -1 },
		func(p *api.Prog) { p.Mems[0].Name = "t" },
		func(p *api.Prog) { p.Mems[0].Name = "mid" },
		func(p *api.Prog) { p.Mems[0].Name = "" },
		func(p *api.Prog) { p.Mems[0].Name = "r1" },
		func(p *api.Prog) { p.Mems[0].Name = "key 9\npublic u" },
		func(p *api.Prog) { p.Labels[0].Name = "out" },
		func(p *api.Prog) { p.Labels[0].Name = "halt" },
		func(p *api.Prog) { p.Labels[0].Name = "x:\ny" },
		func(p *api.Prog) { p.Labels[0].At = 1 },
		func(p *api.Prog) { p.Labels[0].At = -1 },
		func(p *api.Prog) { p.Labels[4].At = 10 },
		func(p *api.Prog) { p.Labels[4].At = 12 },
		func(p *api.Prog) { p.Labels = p.Labels[:3] },
		func(p *api.Prog) { p.Labels = nil },
		func(p *api.Prog) { p.Ins = nil },
		func(p *api.Prog) { p.Ins = append(p.Ins, slices.Repeat(halt, 22)...) },
		func(p *api.Prog) { p.Ins[0].Kind = 12 },
		func(p *api.Prog) { p.Ins[0].Kind = 0 },
		func(p *api.Prog) { p.Ins[0].D = 4 },
		func(p *api.Prog) { p.Ins[0].B.N = 100000 },
		func(p *api.Prog) { p.Ins[0].Target = 2 },
		func(p *api.Prog) { p.Ins[0].Name = "in" },
		func(p *api.Prog) { p.Ins[2].Name = "out" },
		func(p *api.Prog) { p.Ins[2].Target = 1 },
		func(p *api.Prog) { p.Ins[2].Target = 12 },
		func(p *api.Prog) { p.Ins[2].Target = -1 },
		func(p *api.Prog) { p.Ins[4].Name = "top" },
		func(p *api.Prog) { p.Ins[6].D = 1 },
	} {
		p := wholeProg()
		change(&p)
		printsNot(t, p)
	}
}

var (
	oddNumbers = []int{math.MinInt, -2, -1, 0, 1, 2, 3, 4, 5, 6, 7, 8, 9, 10, 11, 12, 15, 16, 17, 32, 50, 999, 1000, 1001, 99999, 100000, math.MaxInt}
	oddNames   = []string{"", "a", "b", "key", "t", "in", "top", "mid", "out", "end", "zz", "r0", "r4", "halt", "br", "a b", "a:", "a\n", "a:\nb", "a;", "A", "ä", "\xff", "1"}
)

// changes are all that change one field of a program by an odd value, or one list by an item.
func changes() []func(p *api.Prog) {
	var l []func(p *api.Prog)
	for _, n := range oddNumbers {
		l = append(l,
			func(p *api.Prog) { p.W = n },
			func(p *api.Prog) { p.Window = n },
			func(p *api.Prog) { p.Fuel = n },
		)
		for k := range 4 {
			l = append(l, func(p *api.Prog) { p.Regs[k] = n })
		}
		for k := range 2 {
			l = append(l, at(k, func(p *api.Prog) []api.Mem { return p.Mems }, func(m *api.Mem) { m.N = n }))
		}
		for k := range 5 {
			l = append(l, at(k, func(p *api.Prog) []api.Label { return p.Labels }, func(x *api.Label) { x.At = n }))
		}
		for k := range 11 {
			for _, change := range insChanges(n) {
				l = append(l, at(k, func(p *api.Prog) []api.Ins { return p.Ins }, change))
			}
		}
	}
	for _, s := range oddNames {
		l = append(l,
			func(p *api.Prog) { p.Mems = append(p.Mems, api.Mem{Name: s, N: 1}) },
			func(p *api.Prog) { p.Labels = append(p.Labels, api.Label{Name: s, At: len(p.Ins)}) },
		)
		for k := range 2 {
			l = append(l, at(k, func(p *api.Prog) []api.Mem { return p.Mems }, func(m *api.Mem) { m.Name = s }))
		}
		for k := range 5 {
			l = append(l, at(k, func(p *api.Prog) []api.Label { return p.Labels }, func(x *api.Label) { x.Name = s }))
		}
		for k := range 11 {
			l = append(l, at(k, func(p *api.Prog) []api.Ins { return p.Ins }, func(i *api.Ins) { i.Name = s }))
		}
	}
	return append(l, listChanges()...)
}

func insChanges(n int) []func(i *api.Ins) {
	return []func(i *api.Ins){
		func(i *api.Ins) { i.Kind = n },
		func(i *api.Ins) { i.Op = n },
		func(i *api.Ins) { i.D = n },
		func(i *api.Ins) { i.Target = n },
		func(i *api.Ins) { i.A = reg(n) },
		func(i *api.Ins) { i.A = num(n) },
		func(i *api.Ins) { i.B = reg(n) },
		func(i *api.Ins) { i.B = num(n) },
	}
}

func listChanges() []func(p *api.Prog) {
	l := []func(p *api.Prog){
		func(p *api.Prog) { slices.Reverse(p.Mems) },
		func(p *api.Prog) { slices.Reverse(p.Labels) },
		func(p *api.Prog) { slices.Reverse(p.Ins) },
		func(p *api.Prog) { p.Mems = nil },
		func(p *api.Prog) { p.Mems = []api.Mem{} },
		func(p *api.Prog) { p.Ins = []api.Ins{} },
	}
	for n := range 40 {
		l = append(l,
			func(p *api.Prog) { p.Ins = slices.Repeat(halt, n) },
			func(p *api.Prog) { p.Mems = oneMems(n) },
			func(p *api.Prog) { p.Labels, p.Ins = p.Labels[:min(n, len(p.Labels))], append(p.Ins, halt...) },
		)
	}
	return l
}

// at changes the k-th item of a list, if there is one.
func at[T any](k int, list func(*api.Prog) []T, change func(*T)) func(*api.Prog) {
	return func(p *api.Prog) {
		if l := list(p); k < len(l) {
			change(&l[k])
		}
	}
}

var (
	nameForm = regexp.MustCompile(`^[a-z][a-z0-9]*$`)
	noNames  = strings.Fields("width window fuel public secret add sub and or xor shl shr mul lt eq mov load store cmov br jmp call ind ret fence halt r0 r1 r2 r3")
)

func goodName(s string) bool {
	return nameForm.MatchString(s) && !strings.HasSuffix(s, "\n") && !slices.Contains(noNames, s)
}

// mayBe tells by what 6.1 asks of a program's fields whether a text tells it.
func mayBe(p api.Prog) bool {
	if p.W < 1 || p.W > 16 || p.Window < 1 || p.Window > 6 || p.Fuel < 1 || p.Fuel > 1000 || len(p.Ins) < 1 || len(p.Ins) > 32 {
		return false
	}
	for _, r := range p.Regs {
		if r < 0 || r > 2 {
			return false
		}
	}
	names := map[string]int{}
	cells := 0
	for _, m := range p.Mems {
		names[m.Name]++
		if !goodName(m.Name) || m.N < 1 || m.N > 16 {
			return false
		}
		cells += m.N
	}
	ahead := 0
	for _, x := range p.Labels {
		names[x.Name]++
		if !goodName(x.Name) || x.At < ahead || x.At > len(p.Ins) {
			return false
		}
		ahead = x.At
	}
	for _, i := range p.Ins {
		if !insMayBe(p, i) {
			return false
		}
	}
	return cells <= 16 && cells <= 1<<p.W && len(names) == len(p.Mems)+len(p.Labels)
}

func insMayBe(p api.Prog, i api.Ins) bool {
	if i.Name != "" {
		return false
	}
	if i.Kind == 5 || i.Kind == 6 || i.Kind == 8 {
		if !slices.ContainsFunc(p.Labels, func(x api.Label) bool { return x.At == i.Target }) {
			return false
		}
		i.Name, i.Target = "x", 0
	}
	_, ok := syns.Print(api.Item{Kind: 7, Ins: i})
	return ok
}

// told is a program's text, by what 6.2 says of it.
func told(p api.Prog) string {
	s := fmt.Sprintf("width %d\nwindow %d\nfuel %d\n", p.W, p.Window, p.Fuel)
	for n, r := range p.Regs {
		s += []string{"", fmt.Sprintf("public r%d\n", n), fmt.Sprintf("secret r%d\n", n)}[r]
	}
	for _, m := range p.Mems {
		s += fmt.Sprintf("%s %s %d\n", map[bool]string{false: "public", true: "secret"}[m.Secret], m.Name, m.N)
	}
	for n := range len(p.Ins) + 1 {
		for _, x := range p.Labels {
			if x.At == n {
				s += x.Name + ":\n"
			}
		}
		if n == len(p.Ins) {
			continue
		}
		i := p.Ins[n]
		if k := slices.IndexFunc(p.Labels, func(x api.Label) bool { return x.At == i.Target }); k >= 0 && slices.Contains([]int{5, 6, 8}, i.Kind) {
			i.Name, i.Target = p.Labels[k].Name, 0
		}
		line, _ := syns.Print(api.Item{Kind: 7, Ins: i})
		s += line + "\n"
	}
	return s
}

// asModel holds Ok and Print against the model, and what is told against Parse.
func asModel(t *testing.T, p api.Prog) bool {
	t.Helper()
	if !mayBe(p) {
		printsNot(t, p)
		return false
	}
	was := clone(p)
	s, ok := Print(p)
	if s != told(p) || !ok || !Ok(p) {
		t.Fatalf("Print(%v) = %q, %v, want %q", p, s, ok, told(p))
	}
	right(t, s, was)
	if !equal(p, was) {
		t.Fatalf("%v became %v", was, p)
	}
	return true
}

var someLines = []string{
	"", "", "; é", "width 1", "width 4", "width 4", "width 16", "width 0", "width 17", "window 2", "window 7", "fuel 9", "fuel 1001",
	"public r0", "secret r1", "secret r0", "public a 1", "secret b 2", "public c 9", "public d 6", "secret a 16", "public e 0",
	"a:", "b:", "x:", "y:", "z:", "x:", "y:",
	"halt", "ret", "fence", "mov r0, 4", "add r0, r1, 99999", "load r1, [r0 + 3]", "store [r0 + 3], r2", "ind r3", "cmov r1, r2, r3",
	"jmp x", "call y", "br lt r0, 4, z", "br eq 1, 1, a", "jmp b",
	"halt 4", "ä", "mov r0", "1a", "x", "  \xff",
}

// readBy tells by a first look at all lines what Parse tells.
func readBy(text string) (line, at int, ok bool) {
	lines := strings.Split(text, "\n")
	if lines[len(lines)-1] == "" {
		lines = lines[:len(lines)-1]
	}
	items := make([]api.Item, len(lines))
	for n, s := range lines {
		i, at, ok := syns.Parse(s)
		if !ok {
			return n, at, false
		}
		items[n] = i
		if !stands(items[:n], i) {
			return n, 0, false
		}
	}
	if !slices.ContainsFunc(items, func(i api.Item) bool { return i.Kind == 1 }) || !slices.ContainsFunc(items, func(i api.Item) bool { return i.Kind == 7 }) {
		return len(lines), 0, false
	}
	for n, i := range items {
		isIt := func(j api.Item) bool { return j.Kind == 6 && j.Name == i.Ins.Name }
		if i.Ins.Name != "" && !slices.ContainsFunc(items, isIt) {
			return n, 0, false
		}
	}
	return 0, 0, true
}

// stands tells whether an item can stand behind those ahead of it.
func stands(ahead []api.Item, i api.Item) bool {
	width, cells, count, begun := 0, 0, 0, false
	for _, j := range ahead {
		begun = begun || j.Kind >= 6
		if j.Kind >= 1 && j.Kind <= 3 && j.Kind == i.Kind || j.Kind == 4 && i.Kind == 4 && j.Ins.D == i.Ins.D || j.Name != "" && j.Name == i.Name {
			return false
		}
		switch j.Kind {
		case 1:
			width = j.N
		case 5:
			cells += j.N
		case 7:
			count++
		}
	}
	switch i.Kind {
	case 1, 2, 3:
		return !begun && i.N >= 1 && i.N <= []int{16, 6, 1000}[i.Kind-1]
	case 4:
		return !begun
	case 5:
		return !begun && width > 0 && i.N >= 1 && cells+i.N <= 16 && cells+i.N <= 1<<width
	case 7:
		return count < 32
	}
	return true
}

// 6.1, 6.3: texts as they come, right and wrong, held against readBy; what is right is told and read as it was.
func TestTexts(t *testing.T) {
	r := rand.New(rand.NewSource(6))
	good := 0
	for k := range 100000 {
		var l []string
		if k%4 > 0 {
			l = append(l, "width 4", "x:", "y:", "halt", "z:")
		}
		for range r.Intn(5) {
			l = slices.Insert(l, r.Intn(len(l)+1), someLines[r.Intn(len(someLines))])
		}
		text := strings.Join(l, "\n")
		line, at, ok := readBy(text)
		p, gotLine, gotAt, gotOk := Parse(text)
		if line != gotLine || at != gotAt || ok != gotOk {
			t.Fatalf("Parse(%q) = %d, %d, %v, want %d, %d, %v", text, gotLine, gotAt, gotOk, line, at, ok)
		}
		if !ok {
			continue
		}
		good++
		if !asModel(t, p) {
			t.Fatalf("Parse(%q) = %v, of which there may be no text", text, p)
		}
	}
	if good < 5000 {
		t.Errorf("only %d texts are right", good)
	}
}

// 6.2, 6.3: programs as they come, with a change or two.
func TestPrograms(t *testing.T) {
	r := rand.New(rand.NewSource(7))
	all := changes()
	good := 0
	for range 30000 {
		p := somePlan(r)
		for range r.Intn(3) {
			all[r.Intn(len(all))](&p)
		}
		if asModel(t, p) {
			good++
		}
	}
	if good < 6000 {
		t.Errorf("only %d programs are right", good)
	}
}

// somePlan is a program that may be.
func somePlan(r *rand.Rand) api.Prog {
	p := api.Prog{W: 1 + r.Intn(16), Window: 1 + r.Intn(6), Fuel: 1 + r.Intn(1000)}
	for n := range p.Regs {
		p.Regs[n] = r.Intn(3)
	}
	free := min(16, 1<<p.W)
	for _, name := range []string{"key", "t", "r4"} {
		if free > 0 && r.Intn(2) == 0 {
			n := 1 + r.Intn(free)
			p.Mems = append(p.Mems, api.Mem{Name: name, Secret: r.Intn(2) == 0, N: n})
			free -= n
		}
	}
	count := 1 + r.Intn(8)
	for _, name := range []string{"in", "a", "out", "b1"} {
		if r.Intn(3) > 0 {
			p.Labels = append(p.Labels, api.Label{Name: name, At: r.Intn(count + 1)})
		}
	}
	slices.SortStableFunc(p.Labels, func(a, b api.Label) int { return a.At - b.At })
	pool := wholeProg().Ins
	for len(p.Ins) < count {
		i := pool[r.Intn(len(pool))]
		if i.Kind == 5 || i.Kind == 6 || i.Kind == 8 {
			if len(p.Labels) == 0 {
				continue
			}
			i.Target = p.Labels[r.Intn(len(p.Labels))].At
		}
		p.Ins = append(p.Ins, i)
	}
	return p
}

// Rules 1 and 3: nil is as an empty list; arguments stay, answers share nothing.
func TestMemory(t *testing.T) {
	a := small(func(p *api.Prog) { p.Mems, p.Labels = []api.Mem{}, []api.Label{} })
	if s, ok := Print(a); s != "width 4\nwindow 1\nfuel 50\nhalt\n" || !ok {
		t.Error(s, ok)
	}
	p, q := read(t, whole), read(t, whole)
	for _, x := range []*api.Prog{&p, &q} {
		x.Mems, x.Labels, x.Ins = x.Mems[:cap(x.Mems)], x.Labels[:cap(x.Labels)], x.Ins[:cap(x.Ins)]
	}
	clear(p.Mems)
	clear(p.Labels)
	clear(p.Ins)
	want := wholeProg()
	if got := (api.Prog{W: 16, Window: 6, Fuel: 1000, Regs: want.Regs, Mems: q.Mems[:2], Labels: q.Labels[:5], Ins: q.Ins[:11]}); !equal(got, want) {
		t.Error(got)
	}
	p = wholeProg()
	spare := clone(p)
	p.Mems = append(slices.Clone(p.Mems), api.Mem{Name: "spare"})[:2]
	p.Labels = append(slices.Clone(p.Labels), api.Label{Name: "spare"})[:5]
	p.Ins = append(slices.Clone(p.Ins), api.Ins{Kind: 77})[:11]
	if s, ok := Print(p); s != wholePrinted || !ok || !Ok(p) {
		t.Error(s, ok)
	}
	if !equal(p, spare) || p.Mems[:3][2].Name != "spare" || p.Labels[:6][5].Name != "spare" || p.Ins[:12][11].Kind != 77 {
		t.Error(p)
	}
	text := strings.Clone(whole)
	for _, x := range read(t, text).Labels {
		if within(x.Name, text) {
			t.Errorf("%q lies in its text", x.Name)
		}
	}
}

func within(s, in string) bool {
	from, at := uintptr(unsafe.Pointer(unsafe.StringData(in))), uintptr(unsafe.Pointer(unsafe.StringData(s)))
	return s != "" && from <= at && at < from+uintptr(len(in))
}

// 6.4: no call panics, and each ends, whatever it is given.
func TestNoPanic(t *testing.T) {
	defer func() {
		if r := recover(); r != nil {
			t.Fatalf("a call panics: %v", r)
		}
	}()
	r := rand.New(rand.NewSource(8))
	all := changes()
	for range 20000 {
		b := make([]byte, r.Intn(30))
		r.Read(b)
		Parse(string(b))
		Parse("width 4\n" + string(b))
		p := wholeProg()
		for range 1 + r.Intn(12) {
			all[r.Intn(len(all))](&p)
		}
		asModel(t, p)
	}
	const many = 1 << 18
	for _, s := range []string{"\n", ";", "halt\n", "a:\n", "\xff", "width 4\n", "public a 1\n", " "} {
		Parse(strings.Repeat(s, many))
		Parse("width 4\n" + strings.Repeat(s, many))
	}
	printsNot(t, api.Prog{W: 4, Window: 1, Fuel: 1, Ins: make([]api.Ins, many)})
	jumps := slices.Repeat([]api.Ins{{Kind: 6, Target: many}}, many)
	printsNot(t, api.Prog{W: 4, Window: 1, Fuel: 1, Labels: make([]api.Label, many), Ins: jumps})
	printsNot(t, api.Prog{W: 4, Window: 1, Fuel: 1, Mems: make([]api.Mem, many), Ins: halt})
}

// 6.1, 6.2: as many labels as one likes.
func TestManyLabels(t *testing.T) {
	const many = 200000
	p := small(func(*api.Prog) {})
	for k := range many {
		p.Labels = append(p.Labels, api.Label{Name: fmt.Sprintf("l%d", k), At: k / (many - 1)})
	}
	p.Ins = slices.Repeat([]api.Ins{{Kind: 6, Target: 1}}, 32)
	s, ok := Print(p)
	if !ok || !strings.HasSuffix(s, strings.Repeat(fmt.Sprintf("jmp l%d\n", many-1), 31)) {
		t.Error(len(s), ok)
	}
	right(t, s, p)
}
