package lexr

import (
	"math/rand"
	"regexp"
	"slices"
	"strconv"
	"strings"
	"testing"
	"unicode/utf8"
	"unsafe"

	"augury/api"
)

func name(s string, at int) api.Tok { return api.Tok{Kind: 1, Text: s, At: at} }

func num(s string, n, at int) api.Tok { return api.Tok{Kind: 2, Text: s, N: n, At: at} }

func sign(s string, at int) api.Tok { return api.Tok{Kind: 3, Text: s, At: at} }

func right(t *testing.T, s string, want ...api.Tok) {
	t.Helper()
	if got, at, ok := Line(s); !slices.Equal(got, want) || at != 0 || !ok {
		t.Errorf("Line(%q) = %v, %d, %v, want %v", s, got, at, ok, want)
	}
}

func wrong(t *testing.T, s string, want int) {
	t.Helper()
	if got, at, ok := Line(s); got != nil || at != want || ok {
		t.Errorf("Line(%q) = %v, %d, %v, want false, %d", s, got, at, ok, want)
	}
}

// 4.1: ordinary lines, told whole.
func TestLines(t *testing.T) {
	right(t, "load r0, [r1 + 2]",
		name("load", 0), name("r0", 5), sign(",", 7), sign("[", 9), name("r1", 10), sign("+", 13), num("2", 2, 15), sign("]", 16))
	right(t, "\tbr lt r3,65535 , out ; and on",
		name("br", 1), name("lt", 4), name("r3", 7), sign(",", 9), num("65535", 65535, 10), sign(",", 16), name("out", 18))
	right(t, "loop:halt", name("loop", 0), sign(":", 4), name("halt", 5))
	right(t, "secret key 16", name("secret", 0), name("key", 7), num("16", 16, 11))
}

// 4.1: blanks, tabs and remarks are no signs; a line may have none.
func TestNothing(t *testing.T) {
	for _, s := range []string{"", " ", "\t", " \t \t", ";", ";;", " ;", "\t; a 01 A \xff ä \n \r;", ";\xff\xfe\x00", "; \u00a0"} {
		right(t, s)
	}
}

// 4.1: blanks and tabs part signs and do not count; only the place tells of them.
func TestBlanks(t *testing.T) {
	right(t, "a b", name("a", 0), name("b", 2))
	right(t, "a\tb", name("a", 0), name("b", 2))
	right(t, " \t a \t 1\t", name("a", 3), num("1", 1, 7))
	right(t, "1 2", num("1", 1, 0), num("2", 2, 2))
	right(t, "0 1", num("0", 0, 0), num("1", 1, 2))
	right(t, "1\ta", num("1", 1, 0), name("a", 2))
	right(t, "[ +", sign("[", 0), sign("+", 2))
	// What else looks like a blank is a fault.
	for _, s := range []string{"\n", "\r", "\v", "\f", "\x00", "\u00a0", "\u0085", "\u2003", "\u3000", "\ufeff"} {
		wrong(t, s, 0)
		wrong(t, "a"+s+"b", 1)
		wrong(t, "a "+s, 2)
		wrong(t, "12"+s, 2)
	}
}

// 4.1: from a ; on nothing counts, wherever it stands.
func TestRemarks(t *testing.T) {
	right(t, "a;b", name("a", 0))
	right(t, "12;3", num("12", 12, 0))
	right(t, "12345;6", num("12345", 12345, 0))
	right(t, "0;1", num("0", 0, 0))
	right(t, "a:;:", name("a", 0), sign(":", 1))
	right(t, "a ; \xffä\n", name("a", 0))
	wrong(t, "ä;", 0)
	wrong(t, "a B;", 2)
	wrong(t, "01;", 1)
	wrong(t, "123456;", 5)
}

// 4.1: names: a letter a to z, then letters and digits, as far as they go.
func TestNames(t *testing.T) {
	for c := 'a'; c <= 'z'; c++ {
		right(t, string(c), name(string(c), 0))
		right(t, "a"+string(c), name("a"+string(c), 0))
	}
	for c := '0'; c <= '9'; c++ {
		right(t, "a"+string(c), name("a"+string(c), 0))
	}
	for _, s := range []string{"z", "r0", "a00", "a1b2c3", "z9z9", "a123456789", "add", "r0r1"} {
		right(t, s, name(s, 0))
		right(t, s+","+s, name(s, 0), sign(",", len(s)), name(s, len(s)+1))
	}
	wrong(t, "A", 0)
	wrong(t, "Z", 0)
	wrong(t, "aB", 1)
	wrong(t, "a1B", 2)
	wrong(t, "_a", 0)
	wrong(t, "a_b", 1)
	wrong(t, "a-b", 1)
	wrong(t, "a.b", 1)
	wrong(t, "ß", 0)
	wrong(t, "aß", 1)
	wrong(t, "a٣", 1)
	// The neighbours of a, z, 0 and 9.
	for _, c := range "`{/" {
		wrong(t, string(c), 0)
		wrong(t, "a"+string(c), 1)
		wrong(t, "1"+string(c), 1)
	}
}

// 4.1: all numbers, with what they are worth; none is longer.
func TestNumbers(t *testing.T) {
	for n := range 100000 {
		s := strconv.Itoa(n)
		right(t, s, num(s, n, 0))
	}
	for _, s := range []string{"100000", "999999", "123456", "1234567890", "12345a", "123451"} {
		wrong(t, s, 5)
		wrong(t, "a "+s, 7)
		wrong(t, s+" ", 5)
	}
	wrong(t, "٣", 0)
	wrong(t, "1٣", 1)
	wrong(t, "-1", 0)
	wrong(t, "1.5", 1)
	right(t, "+1", sign("+", 0), num("1", 1, 1))
}

// 4.1: 0 stands alone; behind a number's digits neither a digit nor a letter can stand.
func TestGlued(t *testing.T) {
	for c := '0'; c <= '9'; c++ {
		wrong(t, "0"+string(c), 1)
		wrong(t, "12345"+string(c), 5)
	}
	for c := 'a'; c <= 'z'; c++ {
		wrong(t, "0"+string(c), 1)
		wrong(t, "7"+string(c), 1)
		wrong(t, "10"+string(c), 2)
		wrong(t, "12345"+string(c), 5)
	}
	wrong(t, "01", 1)
	wrong(t, "1a", 1)
	wrong(t, "000", 1)
	wrong(t, "0x10", 1)
	wrong(t, "a 01", 3)
	wrong(t, "[1a]", 2)
	wrong(t, "1,02", 3)
	// A name behind a sign is no number's.
	right(t, "1:a", num("1", 1, 0), sign(":", 1), name("a", 2))
	right(t, "1+1+0", num("1", 1, 0), sign("+", 1), num("1", 1, 2), sign("+", 3), num("0", 0, 4))
}

// 4.1: the five signs, each by itself; no other rune is one.
func TestSigns(t *testing.T) {
	for _, s := range []string{",", ":", "[", "]", "+"} {
		right(t, s, sign(s, 0))
		right(t, s+s, sign(s, 0), sign(s, 1))
		right(t, "a"+s+"1"+s, name("a", 0), sign(s, 1), num("1", 1, 2), sign(s, 3))
	}
	right(t, ",:[]+", sign(",", 0), sign(":", 1), sign("[", 2), sign("]", 3), sign("+", 4))
}

// 4.1: each rune there is, alone and behind a name: what begins or goes on nothing is told by its place.
func TestEachRune(t *testing.T) {
	for r := rune(0); r <= utf8.MaxRune; r++ {
		if !utf8.ValidRune(r) {
			continue
		}
		s := string(r)
		ok := strings.ContainsRune(" \t;,:[]+abcdefghijklmnopqrstuvwxyz0123456789", r)
		if _, at, got := Line(s); got != ok || at != 0 {
			t.Fatalf("Line(%q) = _, %d, %v", s, at, got)
		}
		if _, at, got := Line("ab" + s); got != ok || !ok && at != 2 {
			t.Fatalf("Line(%q) = _, %d, %v", "ab"+s, at, got)
		}
	}
}

// 4.1: a byte that is no UTF-8 is one rune, and a fault; bytes behind it do not move its place.
func TestNoUTF8(t *testing.T) {
	for b := 0x80; b <= 0xff; b++ {
		s := string([]byte{byte(b)})
		wrong(t, s, 0)
		wrong(t, s+s, 0)
		wrong(t, "a "+s+" b", 2)
		wrong(t, "a"+s, 1)
		wrong(t, "12"+s, 2)
		wrong(t, "0"+s, 1)
		wrong(t, ","+s+"ä", 1)
		right(t, "a;"+s, name("a", 0))
	}
	wrong(t, "\xe2\x82", 0)
	wrong(t, "a\xc3", 1)
	wrong(t, "\xed\xa0\x80", 0)
	wrong(t, "a�", 1)
}

// 4.1: of several faults the first one is told.
func TestFirstFault(t *testing.T) {
	wrong(t, "äö", 0)
	wrong(t, "a 1b C", 3)
	wrong(t, "a ! 1b", 2)
	wrong(t, "1a ä", 1)
	wrong(t, "012 345x", 1)
}

var (
	blanks  = regexp.MustCompile(`^[ \t]+`)
	names   = regexp.MustCompile(`^[a-z][a-z0-9]*`)
	numbers = regexp.MustCompile(`^(0|[1-9][0-9]{0,4})`)
	behind  = regexp.MustCompile(`^[a-z0-9]`)
	singles = regexp.MustCompile(`^[,:\[\]+]`)
)

// model reads a line by patterns, and counts runes where Line counts on bytes.
func model(s string) ([]api.Tok, int, bool) {
	var l []api.Tok
	rest := s
	for {
		rest = rest[len(blanks.FindString(rest)):]
		if rest == "" || rest[0] == ';' {
			return l, 0, true
		}
		at := utf8.RuneCountInString(s[:len(s)-len(rest)])
		x := api.Tok{At: at}
		if x.Text = names.FindString(rest); x.Text != "" {
			x.Kind = api.TName
		} else if x.Text = numbers.FindString(rest); x.Text != "" {
			x.Kind = api.TNum
			x.N, _ = strconv.Atoi(x.Text)
		} else if x.Text = singles.FindString(rest); x.Text != "" {
			x.Kind = api.TSign
		} else {
			return nil, at, false
		}
		rest = rest[len(x.Text):]
		if x.Kind == api.TNum && behind.MatchString(rest) {
			return nil, at + len(x.Text), false
		}
		l = append(l, x)
	}
}

func agrees(t *testing.T, s string) {
	t.Helper()
	got, at, ok := Line(s)
	want, wantAt, wantOk := model(s)
	if !slices.Equal(got, want) || at != wantAt || ok != wantOk {
		t.Fatalf("Line(%q) = %v, %d, %v, want %v, %d, %v", s, got, at, ok, want, wantAt, wantOk)
	}
}

// 4.1, 4.2: all short lines of some runes are read as the model reads them.
func TestShortLines(t *testing.T) {
	pieces := []string{"a", "z", "0", "1", "9", " ", "\t", ";", ",", "]", "A", "ä", "\xff", "\n"}
	level := []string{""}
	for range 4 {
		var longer []string
		for _, s := range level {
			for _, p := range pieces {
				agrees(t, s+p)
				longer = append(longer, s+p)
			}
		}
		level = longer
	}
}

// 4.1, 4.2: long lines as they come are read as the model reads them.
func TestMixedLines(t *testing.T) {
	r := rand.New(rand.NewSource(4))
	pieces := []string{"a", "r0", "load", "z", "0", "1", "12", "345", "9", " ", " ", "  ", "\t", ",", ":", "[", "]", "+", ", ", " + "}
	rare := []string{";", "A", "ä", "\xff", "\n", "€", "_", "\xe2\x82"}
	for range 200000 {
		var s strings.Builder
		for range r.Intn(14) {
			if r.Intn(30) == 0 {
				s.WriteString(rare[r.Intn(len(rare))])
			} else {
				s.WriteString(pieces[r.Intn(len(pieces))])
			}
		}
		agrees(t, s.String())
	}
}

// 4.2: a line is read in one way: its signs, written with blanks between, are read as the same signs, and so is what is read again.
func TestOneWay(t *testing.T) {
	for _, s := range []string{"load r0,[r1+2]", "a:b:c", "br lt r0,1,x;y", "1+2 3", "store [ 0 + r3 ] , r2", "z9:9", "][,::,"} {
		first, _, _ := Line(s)
		again, _, ok := Line(apart(first))
		if !ok || !sameSigns(first, again) {
			t.Errorf("%q is read as %v, and with blanks as %v", s, first, again)
		}
	}
}

func apart(l []api.Tok) string {
	var texts []string
	for _, x := range l {
		texts = append(texts, x.Text)
	}
	return strings.Join(texts, " ")
}

func sameSigns(a, b []api.Tok) bool {
	return slices.EqualFunc(a, b, func(x, y api.Tok) bool {
		x.At, y.At = 0, 0
		return x == y
	})
}

// Rule 3: what is answered is new memory: neither the line's nor another answer's.
func TestAnswered(t *testing.T) {
	s := strings.Clone("load r0, [r1 + 23] ; x")
	one, _, _ := Line(s)
	two, _, _ := Line(s)
	want := slices.Clone(two)
	for i := range one[:cap(one)] {
		one[:cap(one)][i] = api.Tok{Kind: 9, Text: "other", N: 9, At: 9}
	}
	if !slices.Equal(two, want) {
		t.Errorf("two answers share memory: %v", two)
	}
	from := uintptr(unsafe.Pointer(unsafe.StringData(s)))
	for _, x := range two {
		if at := uintptr(unsafe.Pointer(unsafe.StringData(x.Text))); from <= at && at < from+uintptr(len(s)) {
			t.Errorf("%q lies in the line", x.Text)
		}
	}
}

// 4.3: no call panics, and each ends, whatever it is given.
func TestNoPanic(t *testing.T) {
	defer func() {
		if r := recover(); r != nil {
			t.Fatalf("a call panics: %v", r)
		}
	}()
	r := rand.New(rand.NewSource(5))
	for range 200000 {
		b := make([]byte, r.Intn(12))
		r.Read(b)
		Line(string(b))
	}
	const many = 1 << 20
	for _, s := range []string{"a", "1", "0", ",", " ", "a ", "1,", ";", "\xff", "ä", "\x00"} {
		Line(strings.Repeat(s, many))
	}
	right(t, strings.Repeat("a1", many), name(strings.Repeat("a1", many), 0))
	if l, _, ok := Line(strings.Repeat("7 ", many)); len(l) != many || !ok {
		t.Errorf("a long line: %d signs, %v", len(l), ok)
	}
}
