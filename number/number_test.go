package number_test

import (
	"math"
	"math/big"
	"math/rand"
	"strings"
	"testing"

	"colloquy/api"
	"colloquy/number"
)

const most = api.MaxInt

// P17.1: what comes of two numbers.
func TestOps(t *testing.T) {
	for _, x := range []struct {
		n, a, b, want int
		ok            bool
	}{
		{1, 3, 4, 7, true}, {1, most - 1, 0, most - 1, true}, {1, most - 1, 1, 0, false}, {1, -most, -1, 0, false}, {1, -most, 1, 1 - most, true},
		{2, 3, 4, -1, true}, {2, -most, 0, -most, true}, {2, -most, 1, 0, false}, {2, 0, -most, 0, false}, {2, -1, -most, most - 1, true},
		{3, -3, 4, -12, true}, {3, 1 << 15, 1 << 14, 0, false}, {3, 1 << 15, -1 << 14, -most, true}, {3, -most, -most, 0, false}, {3, -most, -1, 0, false},
		{4, 7, 2, 3, true}, {4, -7, 2, -4, true}, {4, 7, -2, -4, true}, {4, -7, -2, 3, true}, {4, 6, -2, -3, true}, {4, 0, -5, 0, true}, {4, 5, 0, 0, false}, {4, -most, -1, 0, false}, {4, -most, 1, -most, true}, {4, 1, -most, -1, true},
		{5, 7, 2, 1, true}, {5, -7, 2, 1, true}, {5, 7, -2, -1, true}, {5, -7, -2, -1, true}, {5, 6, -2, 0, true}, {5, 5, 0, 0, false}, {5, -most, -1, 0, true}, {5, 1, -most, 1 - most, true}, {5, -1, most - 1, most - 2, true},
		{12, 12, 10, 8, true}, {12, -1, 77, 77, true}, {12, -4, -6, -8, true}, {12, -most, most - 1, 0, true},
		{13, 12, 10, 14, true}, {13, -1, 77, -1, true}, {13, -most, most - 1, -1, true}, {13, -8, 3, -5, true},
		{14, 12, 10, 6, true}, {14, -1, 77, -78, true}, {14, -most, most - 1, -1, true}, {14, -1, -1, 0, true},
		{15, 3, 4, 48, true}, {15, -3, 4, -48, true}, {15, 1, 28, 1 << 28, true}, {15, 1, 29, 0, false}, {15, -1, 29, -most, true}, {15, -1, 30, 0, false}, {15, 0, 30, 0, true}, {15, 0, 31, 0, false}, {15, most - 1, 30, 0, false},
		{15, 5, -1, 2, true}, {15, -5, -1, -3, true}, {15, -1, -30, -1, true}, {15, 5, -30, 0, true}, {15, 5, -31, 0, false}, {15, 5, 0, 5, true}, {15, 5, -most, 0, false},
	} {
		want := api.Val{N: x.want}
		if got, ok := number.Op(x.n, x.a, x.b); got != want || ok != x.ok {
			t.Errorf("Op(%d, %d, %d) is %v, %v", x.n, x.a, x.b, got, ok)
		}
	}
}

// P17.1: truths.
func TestCompare(t *testing.T) {
	yes := map[int][3]bool{6: {true, false, false}, 7: {false, false, true}, 8: {true, true, false}, 9: {false, true, true}, 10: {false, true, false}, 11: {true, false, true}}
	for n, l := range yes {
		for _, x := range [][2]int{{-most, most - 1}, {-5, -4}, {3, 4}} {
			for i, p := range [][2]int{x, {x[0], x[0]}, {x[1], x[0]}} {
				want := api.Val{Obj: true, N: api.False}
				if l[i] {
					want.N = api.True
				}
				if got, ok := number.Op(n, p[0], p[1]); got != want || !ok {
					t.Errorf("Op(%d, %d, %d) is %v, %v", n, p[0], p[1], got, ok)
				}
			}
		}
	}
}

// P17.1: of others.
func TestNone(t *testing.T) {
	for _, n := range []int{0, -1, 16, 256 + 1, math.MaxInt, math.MinInt} {
		if got, ok := number.Op(n, 1, 1); got != (api.Val{}) || ok {
			t.Errorf("Op %d is %v, %v", n, got, ok)
		}
	}
	for n := 1; n < 16; n++ {
		for _, x := range []int{most, -most - 1, math.MaxInt, math.MinInt} {
			for _, p := range [][2]int{{x, 1}, {1, x}, {x, x}, {0, x}, {x, 0}} {
				if got, ok := number.Op(n, p[0], p[1]); got != (api.Val{}) || ok {
					t.Errorf("Op(%d, %d, %d) is %v, %v", n, p[0], p[1], got, ok)
				}
			}
		}
	}
}

// P17.2: names.
func TestNames(t *testing.T) {
	for i, name := range strings.Fields(`+ - * // \\ < > <= >= = ~= bitAnd: bitOr: bitXor: bitShift:`) {
		if number.Name(i+1) != name {
			t.Errorf("%d is %s", i+1, number.Name(i+1))
		}
	}
	for _, n := range []int{0, -1, 16, math.MaxInt, math.MinInt} {
		if number.Name(n) != "" {
			t.Errorf("%d is %s", n, number.Name(n))
		}
	}
}

// P17.1, P17.3: as numbers without bounds are reckoned; quotient times divisor, and what is left, is the number.
func TestAsBig(t *testing.T) {
	r := rand.New(rand.NewSource(1))
	fits := func(x *big.Int) bool {
		return x.Cmp(big.NewInt(-most)) >= 0 && x.Cmp(big.NewInt(most)) < 0
	}
	for range 20000 {
		span := []int{4, 300, 1 << 16, most}[r.Intn(4)]
		a, b := r.Intn(2*span)-span, r.Intn(2*span)-span
		x, y := big.NewInt(int64(a)), big.NewInt(int64(b))
		for n, want := range map[int]*big.Int{1: new(big.Int).Add(x, y), 2: new(big.Int).Sub(x, y), 3: new(big.Int).Mul(x, y), 12: new(big.Int).And(x, y), 13: new(big.Int).Or(x, y), 14: new(big.Int).Xor(x, y)} {
			got, ok := number.Op(n, a, b)
			if ok != fits(want) || ok && int64(got.N) != want.Int64() {
				t.Fatalf("Op(%d, %d, %d) is %v, %v", n, a, b, got, ok)
			}
		}
		q, ok := number.Op(4, a, b)
		rest, ok1 := number.Op(5, a, b)
		if ok1 != (b != 0) || ok && q.N*b+rest.N != a || b > 0 && (rest.N < 0 || rest.N >= b) || b < 0 && (rest.N > 0 || rest.N <= b) {
			t.Fatalf("%d by %d: %v, %v", a, b, q, rest)
		}
	}
}
