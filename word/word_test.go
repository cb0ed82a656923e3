package word

import (
	"math"
	"testing"

	"augury/api"
)

var noWidths = []int{math.MinInt, -(1 << 40), -17, -16, -1, 0, 17, 18, 32, 63, 64, 1 << 40, math.MaxInt}

var noOps = []int{math.MinInt, -1, 0, api.OEq + 1, 1 << 40, math.MaxInt}

var allOps = []int{api.OAdd, api.OSub, api.OAnd, api.OOr, api.OXor, api.OShl, api.OShr, api.OMul, api.OLt, api.OEq}

var edgeNumbers = []int{
	math.MinInt, math.MinInt + 1, -(1 << 32) - 1, -(1 << 16) - 1, -(1 << 16), -(1 << 16) + 1, -17, -16, -2, -1,
	0, 1, 2, 3, 7, 8, 9, 15, 16, 17, 31, 255, 256, 257, 40503, 32767, 32768, 65535, 65536, 65537, 1 << 32, math.MaxInt - 1, math.MaxInt,
}

// powers are written out, so that they lean on nothing of what is tested.
var powers = [17]int{1, 2, 4, 8, 16, 32, 64, 128, 256, 512, 1024, 2048, 4096, 8192, 16384, 32768, 65536}

// 1.1: Ok and Size of each width.
func TestWidths(t *testing.T) {
	for w := 1; w <= 16; w++ {
		if !Ok(w) || Size(w) != powers[w] {
			t.Errorf("width %d: %v, %d", w, Ok(w), Size(w))
		}
	}
}

// 1.1: what is no width.
func TestNoWidths(t *testing.T) {
	for _, w := range noWidths {
		if Ok(w) || Size(w) != 0 {
			t.Errorf("width %d: %v, %d", w, Ok(w), Size(w))
		}
		for _, n := range edgeNumbers {
			if got := Mask(w, n); got != 0 {
				t.Errorf("Mask(%d, %d) = %d", w, n, got)
			}
			for _, op := range allOps {
				if got, ok := Do(w, op, n, 1); got != 0 || ok {
					t.Errorf("Do(%d, %d, %d, 1) = %d, %v", w, op, n, got, ok)
				}
			}
		}
	}
}

// 1.1: what is no op, of each width.
func TestNoOps(t *testing.T) {
	for w := 1; w <= 16; w++ {
		for _, op := range noOps {
			for _, n := range edgeNumbers {
				if got, ok := Do(w, op, n, n); got != 0 || ok {
					t.Errorf("Do(%d, %d, %d, %d) = %d, %v", w, op, n, n, got, ok)
				}
			}
		}
	}
}

// modulo is the nearest that division with rest comes to a number of 0 at least.
func modulo(n, size int) int {
	rest := n % size
	if rest < 0 {
		rest += size
	}
	return rest
}

// 1.1: Mask is modulo Size, of numbers below 0 and beyond 2^16, too.
func TestMask(t *testing.T) {
	for w := 1; w <= 16; w++ {
		for _, n := range edgeNumbers {
			if got := Mask(w, n); got != modulo(n, powers[w]) {
				t.Errorf("Mask(%d, %d) = %d", w, n, got)
			}
		}
		for n := -70000; n <= 140000; n += 7 {
			if got := Mask(w, n); got != modulo(n, powers[w]) {
				t.Fatalf("Mask(%d, %d) = %d", w, n, got)
			}
		}
	}
}

// 1.1: the numbers of the ops, and one ordinary call of each.
func TestOps(t *testing.T) {
	for _, x := range []struct{ w, op, a, b, want int }{
		{2, 1, 3, 2, 1},
		{8, 1, 200, 100, 44},
		{8, 2, 3, 5, 254},
		{8, 3, 0xcc, 0xaa, 0x88},
		{8, 4, 0xcc, 0xaa, 0xee},
		{8, 5, 0xcc, 0xaa, 0x66},
		{8, 6, 0x55, 3, 0xa8},
		{8, 7, 0xaa, 3, 0x15},
		{8, 8, 20, 13, 4},
		{8, 9, 3, 4, 1},
		{8, 9, 4, 3, 0},
		{8, 9, 4, 4, 0},
		{8, 10, 4, 4, 1},
		{8, 10, 4, 5, 0},
	} {
		if got, ok := Do(x.w, x.op, x.a, x.b); got != x.want || !ok {
			t.Errorf("Do(%d, %d, %d, %d) = %d, %v", x.w, x.op, x.a, x.b, got, ok)
		}
	}
}

// 1.1: a and b are masked ahead of what is done with them, moves and comparisons among it.
func TestMaskedFirst(t *testing.T) {
	for _, x := range []struct{ w, op, a, b, want int }{
		{4, api.OShl, 3, 17, 6},
		{4, api.OShl, 3, 16, 3},
		{4, api.OShl, 3, -16, 3},
		{4, api.OShl, 3, -1, 0},
		{4, api.OShr, 0x1f8, 1, 4},
		{4, api.OShr, -1, 1, 7},
		{4, api.OShr, 12, 18, 3},
		{4, api.OLt, -1, 0, 0},
		{4, api.OLt, 0, -1, 1},
		{4, api.OLt, 16, 1, 1},
		{4, api.OLt, 1, 16, 0},
		{4, api.OEq, 5, 21, 1},
		{4, api.OEq, -1, 15, 1},
		{4, api.OAnd, -1, 16 + 5, 5},
		{16, api.OEq, math.MinInt, 0, 1},
		{16, api.OEq, math.MaxInt, 65535, 1},
		{16, api.OLt, math.MinInt, math.MaxInt, 1},
		{16, api.OLt, math.MaxInt, math.MinInt, 0},
	} {
		if got, ok := Do(x.w, x.op, x.a, x.b); got != x.want || !ok {
			t.Errorf("Do(%d, %d, %d, %d) = %d, %v", x.w, x.op, x.a, x.b, got, ok)
		}
	}
}

// 1.1: moves by less than the width, by the width, and by more, up to the greatest word.
func TestMoves(t *testing.T) {
	for w := 1; w <= 16; w++ {
		full := powers[w] - 1
		for by := 0; by <= full; by++ {
			left, right := full, full
			for i := 0; i < by && i < w; i++ {
				left = modulo(left*2, powers[w])
				right /= 2
			}
			if got, ok := Do(w, api.OShl, full, by); got != left || !ok {
				t.Fatalf("width %d: left by %d: %d, %v", w, by, got, ok)
			}
			if got, ok := Do(w, api.OShr, full, by); got != right || !ok {
				t.Fatalf("width %d: right by %d: %d, %v", w, by, got, ok)
			}
		}
	}
}

// slow reckons an op place by place and step by step, without Go's operators on bits.
func slow(w, op, a, b int) int {
	size := powers[w]
	a, b = modulo(a, size), modulo(b, size)
	switch op {
	case api.OAdd:
		return modulo(a+b, size)
	case api.OSub:
		return modulo(size+a-b, size)
	case api.OMul:
		sum := 0
		for range b {
			sum = modulo(sum+a, size)
		}
		return sum
	case api.OAnd, api.OOr, api.OXor:
		return byPlaces(w, op, a, b)
	case api.OShl, api.OShr:
		return moved(w, op, a, b)
	case api.OLt:
		if a < b {
			return 1
		}
	case api.OEq:
		if a == b {
			return 1
		}
	}
	return 0
}

func byPlaces(w, op, a, b int) int {
	sum := 0
	for i := range w {
		both := a/powers[i]%2 + b/powers[i]%2
		if op == api.OAnd && both == 2 || op == api.OOr && both > 0 || op == api.OXor && both == 1 {
			sum += powers[i]
		}
	}
	return sum
}

func moved(w, op, a, b int) int {
	if b >= w {
		return 0
	}
	if op == api.OShl {
		return modulo(a*powers[b], powers[w])
	}
	return a / powers[b]
}

// 1.1: all calls of narrow widths, with numbers below 0 and beyond Size.
func TestNarrowWhole(t *testing.T) {
	for w := 1; w <= 4; w++ {
		for _, op := range allOps {
			for a := -2 * powers[w]; a <= 2*powers[w]; a++ {
				for b := -2 * powers[w]; b <= 2*powers[w]; b++ {
					check(t, w, op, a, b)
				}
			}
		}
	}
}

// 1.1: all widths, with the least and the greatest int among the numbers.
func TestEdges(t *testing.T) {
	for w := 1; w <= 16; w++ {
		for _, op := range allOps {
			for _, a := range edgeNumbers {
				for _, b := range edgeNumbers {
					check(t, w, op, a, b)
				}
			}
		}
	}
}

func check(t *testing.T, w, op, a, b int) {
	t.Helper()
	if got, ok := Do(w, op, a, b); got != slow(w, op, a, b) || !ok {
		t.Fatalf("Do(%d, %d, %d, %d) = %d, %v", w, op, a, b, got, ok)
	}
}

// 1.2: whatever is answered of a width is 0 to below its Size.
func TestBelowSize(t *testing.T) {
	for w := 1; w <= 16; w++ {
		for _, a := range edgeNumbers {
			if n := Mask(w, a); n < 0 || n >= Size(w) {
				t.Fatalf("Mask(%d, %d) = %d", w, a, n)
			}
			for _, op := range allOps {
				for _, b := range edgeNumbers {
					if n, ok := Do(w, op, a, b); n < 0 || n >= Size(w) || !ok {
						t.Fatalf("Do(%d, %d, %d, %d) = %d, %v", w, op, a, b, n, ok)
					}
				}
			}
		}
	}
}

// 1.3: no call panics, whatever the width, the op and the numbers are.
func TestNoPanic(t *testing.T) {
	widths := append([]int{1, 2, 8, 15, 16}, noWidths...)
	ops := append(append([]int{}, allOps...), noOps...)
	for _, w := range widths {
		Ok(w)
		Size(w)
		for _, a := range edgeNumbers {
			Mask(w, a)
			for _, op := range ops {
				for _, b := range edgeNumbers {
					callDo(t, w, op, a, b)
				}
			}
		}
	}
}

func callDo(t *testing.T, w, op, a, b int) {
	t.Helper()
	defer func() {
		if recover() != nil {
			t.Fatalf("Do(%d, %d, %d, %d) panics", w, op, a, b)
		}
	}()
	Do(w, op, a, b)
}
