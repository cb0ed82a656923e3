package syns

import (
	"fmt"
	"math"
	"math/rand"
	"regexp"
	"slices"
	"strconv"
	"strings"
	"testing"
	"unicode/utf8"
	"unsafe"

	"augury/api"
)

var opNames = []string{"add", "sub", "and", "or", "xor", "shl", "shr", "mul", "lt", "eq"}

// words are all that a name can't be, but the registers.
var words = []string{
	"width", "window", "fuel", "public", "secret",
	"add", "sub", "and", "or", "xor", "shl", "shr", "mul", "lt", "eq",
	"mov", "load", "store", "cmov", "br", "jmp", "call", "ind", "ret", "fence", "halt",
}

var registers = []string{"r0", "r1", "r2", "r3"}

func reg(n int) api.Val { return api.Val{Reg: true, N: n} }

func num(n int) api.Val { return api.Val{N: n} }

func ins(i api.Ins) api.Item { return api.Item{Kind: 7, Ins: i} }

func right(t *testing.T, s string, want api.Item) {
	t.Helper()
	if got, at, ok := Parse(s); got != want || at != 0 || !ok {
		t.Errorf("Parse(%q) = %v, %d, %v, want %v", s, got, at, ok, want)
	}
}

func wrong(t *testing.T, s string, want int) {
	t.Helper()
	if got, at, ok := Parse(s); got != (api.Item{}) || at != want || ok {
		t.Errorf("Parse(%q) = %v, %d, %v, want false, %d", s, got, at, ok, want)
	}
}

func prints(t *testing.T, i api.Item, want string) {
	t.Helper()
	if got, ok := Print(i); got != want || !ok {
		t.Errorf("Print(%v) = %q, %v, want %q", i, got, ok, want)
	}
}

func printsNot(t *testing.T, i api.Item) {
	t.Helper()
	if got, ok := Print(i); got != "" || ok {
		t.Errorf("Print(%v) = %q, %v, want false", i, got, ok)
	}
}

// told are lines of each form as Print lays them out, with what they mean; kinds are written out.
var told = []struct {
	s string
	i api.Item
}{
	{"", api.Item{}},
	{"width 4", api.Item{Kind: 1, N: 4}},
	{"width 0", api.Item{Kind: 1}},
	{"window 99999", api.Item{Kind: 2, N: 99999}},
	{"fuel 1000", api.Item{Kind: 3, N: 1000}},
	{"public r0", api.Item{Kind: 4}},
	{"public r2", api.Item{Kind: 4, Ins: api.Ins{D: 2}}},
	{"secret r3", api.Item{Kind: 4, Secret: true, Ins: api.Ins{D: 3}}},
	{"public table 4", api.Item{Kind: 5, Name: "table", N: 4}},
	{"secret key 0", api.Item{Kind: 5, Secret: true, Name: "key"}},
	{"loop:", api.Item{Kind: 6, Name: "loop"}},
	{"add r0, r1, r2", ins(api.Ins{Kind: 1, Op: 1, A: reg(1), B: reg(2)})},
	{"sub r3, 99999, r0", ins(api.Ins{Kind: 1, Op: 2, D: 3, A: num(99999), B: reg(0)})},
	{"and r1, r1, 0", ins(api.Ins{Kind: 1, Op: 3, D: 1, A: reg(1)})},
	{"or r2, 1, 3", ins(api.Ins{Kind: 1, Op: 4, D: 2, A: num(1), B: num(3)})},
	{"xor r0, 0, 0", ins(api.Ins{Kind: 1, Op: 5})},
	{"shl r0, r0, r0", ins(api.Ins{Kind: 1, Op: 6, A: reg(0), B: reg(0)})},
	{"shr r0, r3, 1", ins(api.Ins{Kind: 1, Op: 7, A: reg(3), B: num(1)})},
	{"mul r1, 2, r3", ins(api.Ins{Kind: 1, Op: 8, D: 1, A: num(2), B: reg(3)})},
	{"lt r1, r2, r3", ins(api.Ins{Kind: 1, Op: 9, D: 1, A: reg(2), B: reg(3)})},
	{"eq r3, 7, r2", ins(api.Ins{Kind: 1, Op: 10, D: 3, A: num(7), B: reg(2)})},
	{"load r0, [r1 + 2]", ins(api.Ins{Kind: 2, A: reg(1), B: num(2)})},
	{"load r3, [5 + r0]", ins(api.Ins{Kind: 2, D: 3, A: num(5), B: reg(0)})},
	{"store [3 + r0], r2", ins(api.Ins{Kind: 3, D: 2, A: num(3), B: reg(0)})},
	{"store [r1 + 0], r1", ins(api.Ins{Kind: 3, D: 1, A: reg(1)})},
	{"cmov r1, r0, 3", ins(api.Ins{Kind: 4, D: 1, A: reg(0), B: num(3)})},
	{"br lt r0, 4, out", ins(api.Ins{Kind: 5, Op: 9, A: reg(0), B: num(4), Name: "out"})},
	{"br add 1, r2, x", ins(api.Ins{Kind: 5, Op: 1, A: num(1), B: reg(2), Name: "x"})},
	{"jmp out", ins(api.Ins{Kind: 6, Name: "out"})},
	{"ind r2", ins(api.Ins{Kind: 7, A: reg(2)})},
	{"ind 7", ins(api.Ins{Kind: 7, A: num(7)})},
	{"call fn", ins(api.Ins{Kind: 8, Name: "fn"})},
	{"ret", ins(api.Ins{Kind: 9})},
	{"fence", ins(api.Ins{Kind: 10})},
	{"halt", ins(api.Ins{Kind: 11})},
}

var signs = regexp.MustCompile(`[a-z0-9]+|[^a-z0-9 ]`)

// 5.1: each form of a line, however it is spaced.
func TestLines(t *testing.T) {
	for _, x := range told {
		l := signs.FindAllString(x.s, -1)
		right(t, x.s, x.i)
		right(t, strings.Join(l, " "), x.i)
		right(t, "\t "+strings.Join(l, " \t ")+"  ; as ä \xff it is", x.i)
		right(t, tight(l), x.i)
	}
}

// tight has blanks only where two signs would be one without.
func tight(l []string) string {
	letters := regexp.MustCompile(`^[a-z0-9]`)
	s := ""
	for k, x := range l {
		if k > 0 && letters.MatchString(l[k-1]) && letters.MatchString(x) {
			s += " "
		}
		s += x
	}
	return s
}

// 5.1: a line of no sign is nothing.
func TestNothing(t *testing.T) {
	for _, s := range []string{"", " ", "\t \t", ";", " ; halt", ";\xff\n"} {
		right(t, s, api.Item{})
	}
}

// 5.1: a mov is an or with 0.
func TestMov(t *testing.T) {
	right(t, "mov r2, 9", ins(api.Ins{Kind: 1, Op: 4, D: 2, A: num(9)}))
	right(t, "mov r0,r3", ins(api.Ins{Kind: 1, Op: 4, A: reg(3)}))
	right(t, "mov r1 , 0", ins(api.Ins{Kind: 1, Op: 4, D: 1}))
	wrong(t, "mov", 3)
	wrong(t, "mov r0", 6)
	wrong(t, "mov r0,", 7)
	wrong(t, "mov r0, x", 8)
	wrong(t, "mov 1, r0", 4)
	wrong(t, "mov r0, r1, 0", 10)
	wrong(t, "mov r0, [r1 + 0]", 8)
}

// 5.1: the ten ops, by themselves and in a br; no other word is one.
func TestOps(t *testing.T) {
	for k, op := range opNames {
		right(t, op+" r1, r2, 3", ins(api.Ins{Kind: 1, Op: k + 1, D: 1, A: reg(2), B: num(3)}))
		right(t, "br "+op+" r2, 3, x", ins(api.Ins{Kind: 5, Op: k + 1, A: reg(2), B: num(3), Name: "x"}))
	}
	for _, w := range append([]string{"x", "div", "not", "adds", "r0", "1", ","}, words...) {
		if !slices.Contains(opNames, w) {
			wrong(t, "br "+w+" r2, 3, x", 3)
		}
	}
	wrong(t, "div r0, r1, r2", 4)
}

// 5.1: registers are r0 to r3; a name that looks like one is a name.
func TestRegisters(t *testing.T) {
	for n, r := range registers {
		right(t, "public "+r, api.Item{Kind: 4, Ins: api.Ins{D: n}})
		right(t, "load "+r+",["+r+"+"+r+"]", ins(api.Ins{Kind: 2, D: n, A: reg(n), B: reg(n)}))
		right(t, "ind "+r, ins(api.Ins{Kind: 7, A: reg(n)}))
	}
	for _, x := range []string{"r", "r4", "r9", "r00", "r01", "r10", "r03", "q0", "s3", "ra", "rr0", "r0r"} {
		wrong(t, "ind "+x, 4)
		wrong(t, "load "+x+", [r0 + r1]", 5)
		wrong(t, "load r0, ["+x+" + r1]", 10)
		wrong(t, "load r0, [r1 + "+x+"]", 15)
		wrong(t, "store [0 + 0], "+x, 15)
		wrong(t, "public "+x, 7+len(x))
		right(t, "public "+x+" 1", api.Item{Kind: 5, Name: x, N: 1})
		right(t, x+":", api.Item{Kind: 6, Name: x})
	}
}

// 5.1: numbers go as far as lexr's, and stand only where they may.
func TestNumbers(t *testing.T) {
	for _, n := range []int{0, 1, 9, 10, 16, 255, 256, 65535, 65536, 99999} {
		s := strconv.Itoa(n)
		right(t, "width "+s, api.Item{Kind: 1, N: n})
		right(t, "window "+s, api.Item{Kind: 2, N: n})
		right(t, "fuel "+s, api.Item{Kind: 3, N: n})
		right(t, "public a "+s, api.Item{Kind: 5, Name: "a", N: n})
		right(t, "ind "+s, ins(api.Ins{Kind: 7, A: num(n)}))
		right(t, "cmov r0, "+s+", "+s, ins(api.Ins{Kind: 4, A: num(n), B: num(n)}))
	}
	wrong(t, "width 100000", 11)
	wrong(t, "width 04", 7)
	wrong(t, "width -1", 6)
	wrong(t, "width +1", 6)
	wrong(t, "ind 4k", 5)
	wrong(t, "load 1, [r0 + r1]", 5)
	wrong(t, "store [r0 + r1], 1", 17)
	wrong(t, "cmov 1, r0, r1", 5)
	wrong(t, "public 1", 7)
	wrong(t, "public 1 1", 7)
	wrong(t, "1:", 0)
	wrong(t, "0", 0)
}

// nameLines are the lines in which a name stands, at which place, and what they mean.
func nameLines(name string) []struct {
	s  string
	at int
	i  api.Item
} {
	return []struct {
		s  string
		at int
		i  api.Item
	}{
		{"public " + name + " 2", 7, api.Item{Kind: 5, Name: name, N: 2}},
		{"secret " + name + " 2", 7, api.Item{Kind: 5, Secret: true, Name: name, N: 2}},
		{"jmp " + name, 4, ins(api.Ins{Kind: 6, Name: name})},
		{"call " + name, 5, ins(api.Ins{Kind: 8, Name: name})},
		{"br eq r0, r1, " + name, 14, ins(api.Ins{Kind: 5, Op: 10, A: reg(0), B: reg(1), Name: name})},
	}
}

// 5.1: a name is no word of the lines and no register; else it may be any.
func TestNames(t *testing.T) {
	for _, name := range []string{"a", "z", "x1", "loop", "r4", "r", "name", "op", "none", "adds", "halt0", "movs", "fault", "nop", "w", "registers", strings.Repeat("a1", 1000)} {
		right(t, name+":", api.Item{Kind: 6, Name: name})
		for _, x := range nameLines(name) {
			right(t, x.s, x.i)
			prints(t, x.i, x.s)
		}
	}
	for _, name := range slices.Concat(words, registers) {
		for _, x := range nameLines(name) {
			if strings.HasPrefix(name, "r") && len(name) == 2 && x.i.Kind == 5 {
				x.at = 10 // a register alone may stand there
			}
			wrong(t, x.s, x.at)
			printsNot(t, x.i)
		}
		printsNot(t, api.Item{Kind: 6, Name: name})
	}
	for _, w := range words {
		wrong(t, w+":", len(w))
	}
	for _, r := range registers {
		wrong(t, r+":", 0)
	}
}

// 5.1: lexr's error goes ahead of what can't stand there.
func TestLexrErrors(t *testing.T) {
	wrong(t, "ä", 0)
	wrong(t, "width x A", 8)
	wrong(t, "halt halt 01", 11)
	wrong(t, "5 5 5 1a", 7)
	wrong(t, "halt \xff", 5)
	wrong(t, "halt\n", 4)
	wrong(t, "halt\r", 4)
	wrong(t, "loop x ; Ä", 5)
	wrong(t, "é: halt", 0)
	wrong(t, "Loop:", 0)
}

// 5.1: where more would have to come: as many runes as the line has, blanks and remarks with them.
func TestMoreToCome(t *testing.T) {
	for _, s := range []string{"width", "loop", "public key", "store [r1 +", "br lt r0, 4", "r4", "ind"} {
		wrong(t, s, len(s))
		wrong(t, "  "+s, len(s)+2)
		wrong(t, s+" \t", len(s)+2)
		wrong(t, s+";", len(s)+1)
		wrong(t, s+" ; äö\xff€", len(s)+7)
	}
}

// 5.1: behind a whole line nothing can stand.
func TestTooMuch(t *testing.T) {
	for _, x := range told[1:] {
		for _, s := range []string{"r0", "1", "x", "halt", ",", ":", "[", "]", "+"} {
			wrong(t, x.s+" "+s, len(x.s)+1)
			wrong(t, x.s+" "+s+" "+s, len(x.s)+1)
		}
	}
}

// rightLines are all lines, with R for a register, # for a number and N for a name.
func rightLines() [][]string {
	shapes := []string{
		"width #", "window #", "fuel #", "public R", "secret R", "public N #", "secret N #", "N :",
		"mov R , V", "load R , [ V + V ]", "store [ V + V ] , R", "cmov R , V , V",
		"jmp N", "call N", "ind V", "ret", "fence", "halt",
	}
	for _, op := range opNames {
		shapes = append(shapes, op+" R , V , V", "br "+op+" V , V , N")
	}
	var all [][]string
	for len(shapes) > 0 {
		s := shapes[0]
		shapes = shapes[1:]
		if strings.Contains(s, "V") {
			shapes = append(shapes, strings.Replace(s, "V", "R", 1), strings.Replace(s, "V", "#", 1))
			continue
		}
		all = append(all, strings.Fields(s))
	}
	return all
}

func class(sign string) string {
	switch {
	case slices.Contains(registers, sign):
		return "R"
	case sign[0] >= '0' && sign[0] <= '9':
		return "#"
	case sign[0] >= 'a' && sign[0] <= 'z' && !slices.Contains(words, sign):
		return "N"
	}
	return sign
}

// fits tells with how many of its signs a line could begin, and whether it is whole.
func fits(lines [][]string, l []string) (int, bool) {
	most := 0
	for _, x := range lines {
		n := 0
		for n < len(x) && n < len(l) && x[n] == class(l[n]) {
			n++
		}
		if n == len(x) && n == len(l) {
			return n, true
		}
		most = max(most, n)
	}
	return most, false
}

// agrees holds the line of those signs against the list of all lines, by its place too.
func agrees(t *testing.T, lines [][]string, l []string) {
	t.Helper()
	s := " " + strings.Join(l, "  ") + " ; é"
	n, want := fits(lines, l)
	at := utf8.RuneCountInString(s)
	if want {
		at = 0
	} else if n < len(l) {
		at = len(" " + strings.Join(l[:n], "  "))
		if n > 0 {
			at += 2
		}
	}
	i, got, ok := Parse(s)
	if ok != want || got != at || !ok && i != (api.Item{}) {
		t.Fatalf("Parse(%q) = %v, %d, %v, want %d, %v", s, i, got, ok, at, want)
	}
	if !ok {
		return
	}
	back, ok := Print(i)
	if got := signs.FindAllString(back, -1); !ok || !slices.Equal(got, asOr(l)) {
		t.Fatalf("Print(%v) = %q, %v, from %q", i, back, ok, s)
	}
}

// asOr is the signs of a line as Print tells them: a mov's as an or's.
func asOr(l []string) []string {
	if l[0] != "mov" {
		return l
	}
	return append(append([]string{"or"}, l[1:]...), ",", "0")
}

var someSigns = []string{
	"width", "fuel", "public", "secret", "or", "lt", "mov", "load", "store", "cmov", "br", "jmp", "call", "ind", "ret", "halt",
	"r0", "r3", "r4", "x", "loop", "0", "4", "12", ",", ":", "[", "]", "+",
}

// 5.1: all lines of up to three signs, right and wrong.
func TestShortLines(t *testing.T) {
	lines := rightLines()
	for _, a := range someSigns {
		agrees(t, lines, []string{a})
		for _, b := range someSigns {
			agrees(t, lines, []string{a, b})
			for _, c := range someSigns {
				agrees(t, lines, []string{a, b, c})
			}
		}
	}
}

// 5.1: each right line, and what is one sign from it.
func TestNearLines(t *testing.T) {
	lines := rightLines()
	for _, shape := range lines {
		l := strings.Fields(strings.NewReplacer("R", "r1", "#", "7", "N", "x9").Replace(strings.Join(shape, " ")))
		agrees(t, lines, l)
		for k := range len(l) + 1 {
			if k > 0 {
				agrees(t, lines, l[:k])
			}
			for _, s := range someSigns {
				agrees(t, lines, slices.Insert(slices.Clone(l), k, s))
				if k < len(l) {
					changed := slices.Clone(l)
					changed[k] = s
					agrees(t, lines, changed)
				}
			}
			if k < len(l) && len(l) > 1 {
				agrees(t, lines, slices.Delete(slices.Clone(l), k, k+1))
			}
		}
	}
}

// 5.2: how lines are laid out.
func TestPrint(t *testing.T) {
	for _, x := range told {
		prints(t, x.i, x.s)
	}
	prints(t, ins(api.Ins{Kind: 1, Op: 4, D: 2, A: num(9)}), "or r2, 9, 0")
}

// model is the line of i, and whether it has one: i is what its fields in use make anew.
func model(i api.Item) (string, bool) {
	x := i.Ins
	a, b := value(x.A), value(x.B)
	of := func(n api.Ins) bool { n.Kind = x.Kind; return i == ins(n) }
	switch i.Kind {
	case 0:
		return "", i == api.Item{}
	case 1, 2, 3:
		return fmt.Sprintf("%s %d", []string{"width", "window", "fuel"}[i.Kind-1], i.N), isNum(i.N) && i == api.Item{Kind: i.Kind, N: i.N}
	case 4:
		return fmt.Sprintf("%s r%d", access(i.Secret), x.D), isReg(x.D) && i == api.Item{Kind: 4, Secret: i.Secret, Ins: api.Ins{D: x.D}}
	case 5:
		return fmt.Sprintf("%s %s %d", access(i.Secret), i.Name, i.N), goodName(i.Name) && isNum(i.N) && i == api.Item{Kind: 5, Secret: i.Secret, Name: i.Name, N: i.N}
	case 6:
		return i.Name + ":", goodName(i.Name) && i == api.Item{Kind: 6, Name: i.Name}
	case 7:
	default:
		return "", false
	}
	ab := isVal(x.A) && isVal(x.B)
	dab := isReg(x.D) && ab
	op := x.Op >= 1 && x.Op <= 10
	switch x.Kind {
	case 1:
		return fmt.Sprintf("%s r%d, %s, %s", opName(x.Op), x.D, a, b), op && dab && of(api.Ins{Op: x.Op, D: x.D, A: x.A, B: x.B})
	case 2:
		return fmt.Sprintf("load r%d, [%s + %s]", x.D, a, b), dab && of(api.Ins{D: x.D, A: x.A, B: x.B})
	case 3:
		return fmt.Sprintf("store [%s + %s], r%d", a, b, x.D), dab && of(api.Ins{D: x.D, A: x.A, B: x.B})
	case 4:
		return fmt.Sprintf("cmov r%d, %s, %s", x.D, a, b), dab && of(api.Ins{D: x.D, A: x.A, B: x.B})
	case 5:
		return fmt.Sprintf("br %s %s, %s, %s", opName(x.Op), a, b, x.Name), op && ab && goodName(x.Name) && of(api.Ins{Op: x.Op, A: x.A, B: x.B, Name: x.Name})
	case 6:
		return "jmp " + x.Name, goodName(x.Name) && of(api.Ins{Name: x.Name})
	case 7:
		return "ind " + a, isVal(x.A) && of(api.Ins{A: x.A})
	case 8:
		return "call " + x.Name, goodName(x.Name) && of(api.Ins{Name: x.Name})
	case 9, 10, 11:
		return []string{"ret", "fence", "halt"}[x.Kind-9], of(api.Ins{})
	}
	return "", false
}

func access(secret bool) string {
	if secret {
		return "secret"
	}
	return "public"
}

func opName(op int) string {
	if op < 1 || op > 10 {
		return "?"
	}
	return opNames[op-1]
}

func value(v api.Val) string {
	if v.Reg {
		return "r" + strconv.Itoa(v.N)
	}
	return strconv.Itoa(v.N)
}

func isReg(n int) bool { return n >= 0 && n <= 3 }

func isNum(n int) bool { return n >= 0 && n <= 99999 }

func isVal(v api.Val) bool { return v.Reg && isReg(v.N) || !v.Reg && isNum(v.N) }

var nameForm = regexp.MustCompile(`^[a-z][a-z0-9]*$`)

func goodName(s string) bool {
	return nameForm.MatchString(s) && !strings.Contains(s, "\n") && !slices.Contains(words, s) && !slices.Contains(registers, s)
}

// asModel holds Print against the model, and what it tells against Parse.
func asModel(t *testing.T, i api.Item) bool {
	t.Helper()
	want, wantOk := model(i)
	if !wantOk {
		want = ""
	}
	got, ok := Print(i)
	if got != want || ok != wantOk {
		t.Fatalf("Print(%#v) = %q, %v, want %q, %v", i, got, ok, want, wantOk)
	}
	if ok {
		right(t, got, i)
	}
	return ok
}

var (
	oddNumbers = []int{math.MinInt, -100000, -2, -1, 0, 1, 2, 3, 4, 5, 9, 10, 11, 12, 100, 99999, 100000, math.MaxInt}
	oddNames   = []string{"", "x", "r1", "r4", "halt", "or", "mov", "a b", "a;", "a:", "a:;", "x 5;", "a\n", "A", "ä", "1", "1a", " x", "x ", "\xff", "x, r1", "x+"}
	oddVals    = []api.Val{{Reg: true}, {Reg: true, N: 3}, {Reg: true, N: 4}, {Reg: true, N: -1}, {Reg: true, N: 10}, {}, {N: 99999}, {N: 100000}, {N: -1}, {N: math.MinInt}}
)

// spoiled are items that differ from i in one field.
func spoiled(i api.Item) []api.Item {
	var l []api.Item
	add := func(change func(*api.Item)) {
		x := i
		change(&x)
		l = append(l, x)
	}
	for _, n := range oddNumbers {
		add(func(x *api.Item) { x.Kind = n })
		add(func(x *api.Item) { x.N = n })
		add(func(x *api.Item) { x.Ins.Kind = n })
		add(func(x *api.Item) { x.Ins.Op = n })
		add(func(x *api.Item) { x.Ins.D = n })
		add(func(x *api.Item) { x.Ins.Target = n })
	}
	for _, s := range oddNames {
		add(func(x *api.Item) { x.Name = s })
		add(func(x *api.Item) { x.Ins.Name = s })
	}
	for _, v := range oddVals {
		add(func(x *api.Item) { x.Ins.A = v })
		add(func(x *api.Item) { x.Ins.B = v })
	}
	for n := range 13 {
		add(func(x *api.Item) { x.Kind = n })
		add(func(x *api.Item) { x.Ins.Kind = n })
		add(func(x *api.Item) { x.Ins.Op = n })
	}
	add(func(x *api.Item) { x.Secret = !x.Secret })
	return l
}

// 5.2: what no line tells: each item that differs in a field or two from one that has a line.
func TestPrintNear(t *testing.T) {
	for _, x := range told {
		for _, i := range spoiled(x.i) {
			asModel(t, i)
		}
	}
	for _, x := range []int{1, 5, 8, 11, 14, 21, 26, 28} {
		for _, i := range spoiled(told[x].i) {
			for _, j := range spoiled(i) {
				asModel(t, j)
			}
		}
	}
}

// 5.2: what no line tells, written out.
func TestPrintNot(t *testing.T) {
	for _, i := range []api.Item{
		{Kind: -1}, {Kind: 8}, {N: 1}, {Secret: true}, {Name: "x"}, {Ins: api.Ins{Kind: 11}},
		{Kind: 1, N: -1}, {Kind: 1, N: 100000}, {Kind: 1, Secret: true}, {Kind: 3, Name: "x"}, {Kind: 2, Ins: api.Ins{D: 1}},
		{Kind: 4, Ins: api.Ins{D: 4}}, {Kind: 4, Ins: api.Ins{D: -1}}, {Kind: 4, N: 1}, {Kind: 4, Name: "x"},
		{Kind: 5}, {Kind: 5, Name: "x", N: -1}, {Kind: 5, Name: "x", N: 100000}, {Kind: 5, Name: "x 5;", N: 5}, {Kind: 5, Name: "x", Ins: api.Ins{D: 1}},
		{Kind: 6}, {Kind: 6, Name: "x", N: 1}, {Kind: 6, Name: "x", Secret: true}, {Kind: 6, Name: "x:;"}, {Kind: 6, Name: "x "},
		ins(api.Ins{}), ins(api.Ins{Kind: 12}), ins(api.Ins{Kind: -1}),
		ins(api.Ins{Kind: 1}), ins(api.Ins{Kind: 1, Op: 11}), ins(api.Ins{Kind: 1, Op: -1}), ins(api.Ins{Kind: 1, Op: 1, Name: "x"}),
		ins(api.Ins{Kind: 1, Op: 1, Target: 1}), ins(api.Ins{Kind: 2, Op: 1}), ins(api.Ins{Kind: 3, Name: "x"}), ins(api.Ins{Kind: 4, Op: 4}),
		ins(api.Ins{Kind: 5, Name: "x"}), ins(api.Ins{Kind: 5, Op: 1}), ins(api.Ins{Kind: 5, Op: 1, D: 1, Name: "x"}), ins(api.Ins{Kind: 5, Op: 1, Name: "x", Target: -1}),
		ins(api.Ins{Kind: 6}), ins(api.Ins{Kind: 6, Name: "x", Target: 3}), ins(api.Ins{Kind: 6, Name: "x;"}), ins(api.Ins{Kind: 6, Name: "x", A: num(1)}),
		ins(api.Ins{Kind: 7, B: num(1)}), ins(api.Ins{Kind: 7, D: 1}), ins(api.Ins{Kind: 7, A: reg(4)}), ins(api.Ins{Kind: 7, A: num(-1)}), ins(api.Ins{Kind: 7, A: num(100000)}),
		ins(api.Ins{Kind: 9, A: reg(0)}), ins(api.Ins{Kind: 10, Name: "x"}), ins(api.Ins{Kind: 11, D: 1}),
		{Kind: 7, Secret: true, Ins: api.Ins{Kind: 11}}, {Kind: 7, N: 1, Ins: api.Ins{Kind: 11}}, {Kind: 7, Name: "x", Ins: api.Ins{Kind: 11}},
	} {
		printsNot(t, i)
	}
}

// 5.3: what is told is read as it was, of items as they come.
func TestReadAsTold(t *testing.T) {
	r := rand.New(rand.NewSource(5))
	pick := func(l []int) int { return l[r.Intn(len(l))] }
	val := func() api.Val {
		if r.Intn(2) == 0 {
			return reg(r.Intn(4))
		}
		return num(r.Intn(100000))
	}
	names := []string{"x", "loop", "key", "r4", "adds", "a0", "z9z"}
	good := 0
	for range 300000 {
		x := told[r.Intn(len(told))].i
		x.Secret = x.Secret != (r.Intn(4) == 0)
		if x.Name != "" {
			x.Name = names[r.Intn(len(names))]
		}
		if x.Ins.Name != "" {
			x.Ins.Name = names[r.Intn(len(names))]
		}
		if x.N > 0 {
			x.N = pick([]int{0, 1, 16, 1000, r.Intn(100000), 99999})
		}
		if x.Ins.Op > 0 {
			x.Ins.Op = 1 + r.Intn(10)
		}
		if x.Ins.D > 0 || r.Intn(5) == 0 {
			x.Ins.D = r.Intn(4)
		}
		if x.Ins.A != (api.Val{}) {
			x.Ins.A = val()
		}
		if x.Ins.B != (api.Val{}) {
			x.Ins.B = val()
		}
		if asModel(t, x) {
			good++
		}
	}
	if good < 100000 {
		t.Errorf("only %d items have a line", good)
	}
}

// Rule 3: what is answered is new memory: no name lies in the line, no line in the name.
func TestAnswered(t *testing.T) {
	for _, s := range []string{"public keys 4", "keys:", "jmp keys", "call keys", "br lt r0, 1, keys", "halt"} {
		s = strings.Clone(s)
		i, _, _ := Parse(s)
		back, _ := Print(i)
		again, _ := Print(i)
		for _, name := range []string{i.Name, i.Ins.Name} {
			if within(name, s) || within(name, back) {
				t.Errorf("%q lies in its line %q", name, s)
			}
		}
		if within(back, again) || within(back, s) {
			t.Errorf("%q lies in another answer", back)
		}
	}
}

func within(s, in string) bool {
	from, at := uintptr(unsafe.Pointer(unsafe.StringData(in))), uintptr(unsafe.Pointer(unsafe.StringData(s)))
	return s != "" && from <= at && at < from+uintptr(len(in))
}

// 5.4: no call panics, and each ends, whatever it is given.
func TestNoPanic(t *testing.T) {
	defer func() {
		if r := recover(); r != nil {
			t.Fatalf("a call panics: %v", r)
		}
	}()
	r := rand.New(rand.NewSource(6))
	for range 100000 {
		b := make([]byte, r.Intn(20))
		r.Read(b)
		Parse(string(b))
		Print(api.Item{Kind: 5, Name: string(b)})
		Print(ins(api.Ins{Kind: 6, Name: string(b)}))
	}
	for range 100000 {
		n := func() int { return oddNumbers[r.Intn(len(oddNumbers))] }
		v := func() api.Val { return oddVals[r.Intn(len(oddVals))] }
		s := func() string { return oddNames[r.Intn(len(oddNames))] }
		Print(api.Item{Kind: n(), N: n(), Secret: r.Intn(2) == 0, Name: s(), Ins: api.Ins{Kind: n(), Op: n(), D: n(), A: v(), B: v(), Name: s(), Target: n()}})
	}
	const many = 1 << 18
	for _, s := range []string{"a", "1", ",", " ", "halt ", "add r0, ", "[", ";", "\xff", "public ", "r0 "} {
		Parse(strings.Repeat(s, many))
		Print(api.Item{Kind: 6, Name: strings.Repeat(s, many)})
	}
	wrong(t, strings.Repeat("halt ", many), 5)
	wrong(t, "jmp"+strings.Repeat(" ", many), 3+many)
}
