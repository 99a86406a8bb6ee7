package plane_test

import (
	"math"
	"math/rand"
	"testing"

	"colloquy/plane"
)

const far = 1 << 20

type pair struct {
	x, y int
	ok   bool
}

func none(p pair) bool { return p == pair{} }

func op(n, ax, ay, bx, by int) pair {
	x, y, ok := plane.Op(n, ax, ay, bx, by)
	return pair{x, y, ok}
}

func turn(x, y, n int) pair {
	x, y, ok := plane.Turn(x, y, n)
	return pair{x, y, ok}
}

func of(c complex128) pair {
	x, y, ok := plane.Of(c)
	return pair{x, y, ok}
}

// P6.1: sums, differences, products.
func TestOps(t *testing.T) {
	for _, x := range []struct {
		n, ax, ay, bx, by int
		want              pair
	}{
		{1, 1, 2, 3, 4, pair{4, 6, true}},
		{2, 1, 2, 3, 5, pair{-2, -3, true}},
		{3, 0, 1, 0, 1, pair{-1, 0, true}},
		{3, 2, 3, 4, 5, pair{-7, 22, true}},
		{4, 2, 3, 4, 5, pair{23, 2, true}},
		{4, 0, 1, 0, 1, pair{1, 0, true}},
		{1, far, -far, 0, 0, pair{far, -far, true}},
		{1, far, 0, 1, 0, pair{}},
		{1, 0, -far, 0, -1, pair{}},
		{2, far, 0, -1, 0, pair{}},
		{2, -far, far, -far, far, pair{0, 0, true}},
		{3, 1024, 0, 1024, 0, pair{far, 0, true}},
		{3, 1024, 0, 1025, 0, pair{}},
		{3, far, far, far, far, pair{}},
		{4, far, far, far, far, pair{}},
		{1, far + 1, 0, -1, 0, pair{}},
		{1, 0, -far - 1, 0, 1, pair{}},
		{1, -1, 0, far + 1, 0, pair{}},
		{2, 0, 1, 0, far + 1, pair{}},
		{3, math.MaxInt, 0, 0, 0, pair{}},
		{3, 0, math.MinInt, 0, 0, pair{}},
		{0, 1, 1, 1, 1, pair{}},
		{5, 1, 1, 1, 1, pair{}},
		{-1, 1, 1, 1, 1, pair{}},
		{math.MinInt, 1, 1, 1, 1, pair{}},
	} {
		if got := op(x.n, x.ax, x.ay, x.bx, x.by); got != x.want {
			t.Errorf("Op(%d, %d, %d, %d, %d) is %v, not %v", x.n, x.ax, x.ay, x.bx, x.by, got, x.want)
		}
	}
}

// P6.1: as whole numbers are reckoned.
func TestExact(t *testing.T) {
	r := rand.New(rand.NewSource(1))
	for range 20000 {
		span := []int{5, 2000, far}[r.Intn(3)]
		number := func() int { return r.Intn(2*span+1) - span }
		ax, ay, bx, by := number(), number(), number(), number()
		for n, want := range [][2]int{{ax + bx, ay + by}, {ax - bx, ay - by}, {ax*bx - ay*by, ax*by + ay*bx}, {ax*bx + ay*by, ay*bx - ax*by}} {
			p := pair{want[0], want[1], true}
			if max(p.x, -p.x, p.y, -p.y) > far {
				p = pair{}
			}
			if got := op(n+1, ax, ay, bx, by); got != p {
				t.Fatalf("Op(%d, %d, %d, %d, %d) is %v, not %v", n+1, ax, ay, bx, by, got, p)
			}
		}
	}
}

// P6.1: norms.
func TestNorm(t *testing.T) {
	for _, x := range []struct {
		x, y, want int
		ok         bool
	}{{0, 0, 0, true}, {3, -4, 25, true}, {far, far, 1 << 41, true}, {-far, 1, 1<<40 + 1, true}, {far + 1, 0, 0, false}, {0, -far - 1, 0, false}, {math.MaxInt, 0, 0, false}, {0, math.MinInt, 0, false}} {
		if got, ok := plane.Norm(x.x, x.y); got != x.want || ok != x.ok {
			t.Errorf("Norm(%d, %d) is %d, %v", x.x, x.y, got, ok)
		}
	}
}

// P6.1: turns, by the two lowest bits.
func TestTurn(t *testing.T) {
	for _, x := range []struct {
		n    int
		want pair
	}{{0, pair{3, 5, true}}, {1, pair{-5, 3, true}}, {2, pair{-3, -5, true}}, {3, pair{5, -3, true}}, {4, pair{3, 5, true}}, {5, pair{-5, 3, true}}, {-1, pair{5, -3, true}}, {-4, pair{3, 5, true}}, {math.MaxInt, pair{5, -3, true}}, {math.MinInt, pair{3, 5, true}}} {
		if got := turn(3, 5, x.n); got != x.want {
			t.Errorf("turned %d times: %v, not %v", x.n, got, x.want)
		}
	}
	if turn(far, -far, 1) != (pair{far, far, true}) {
		t.Error("the farthest one, turned")
	}
	if !none(turn(far+1, 0, 0)) || !none(turn(0, -far-1, 2)) || !none(turn(math.MinInt, 0, 2)) {
		t.Error("what is none, turned")
	}
}

// P6.2: complex numbers as points.
func TestOf(t *testing.T) {
	minus := math.Copysign(0, -1)
	for _, x := range []struct {
		c    complex128
		want pair
	}{
		{3 - 4i, pair{3, -4, true}},
		{complex(minus, minus), pair{0, 0, true}},
		{complex(far, -far), pair{far, -far, true}},
		{complex(far+1, 0), pair{}},
		{complex(0, -far-1), pair{}},
		{0.5, pair{}},
		{complex(0, 1.25), pair{}},
		{complex(math.NaN(), 0), pair{}},
		{complex(0, math.NaN()), pair{}},
		{complex(math.Inf(1), 0), pair{}},
		{complex(0, math.Inf(-1)), pair{}},
		{complex(1e300, 0), pair{}},
		{complex(math.SmallestNonzeroFloat64, 0), pair{}},
	} {
		if got := of(x.c); got != x.want {
			t.Errorf("Of(%v) is %v, not %v", x.c, got, x.want)
		}
	}
}

// P6.3: norms multiply; four turns are none.
func TestNormsMultiply(t *testing.T) {
	r := rand.New(rand.NewSource(2))
	for range 2000 {
		ax, ay, bx, by := r.Intn(1001)-500, r.Intn(1001)-500, r.Intn(1001)-500, r.Intn(1001)-500
		a, _ := plane.Norm(ax, ay)
		b, _ := plane.Norm(bx, by)
		for _, n := range []int{3, 4} {
			p := op(n, ax, ay, bx, by)
			if c, ok := plane.Norm(p.x, p.y); !ok || c != a*b {
				t.Fatalf("norms of %d, %d and %d, %d", ax, ay, bx, by)
			}
		}
		p := pair{ax, ay, true}
		for range 4 {
			p = turn(p.x, p.y, 1)
		}
		if p != (pair{ax, ay, true}) {
			t.Fatalf("four turns of %d, %d are %v", ax, ay, p)
		}
	}
}
