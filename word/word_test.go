package word_test

import (
	"math"
	"testing"

	"colloquy/api"
	"colloquy/word"
)

// P1.1: numbers as words, cut to what there is room for.
func TestNumbers(t *testing.T) {
	for _, x := range []struct {
		v    int
		want uint32
		back int
	}{
		{0, 1, 0},
		{1, 3, 1},
		{-1, 0xffffffff, -1},
		{5, 11, 5},
		{1<<30 - 1, 0x7fffffff, 1<<30 - 1},
		{1 << 30, 0x7fffffff, 1<<30 - 1},
		{-1 << 30, 0x80000001, -1 << 30},
		{-1<<30 - 1, 0x80000001, -1 << 30},
		{math.MaxInt, 0x7fffffff, 1<<30 - 1},
		{math.MinInt, 0x80000001, -1 << 30},
	} {
		w := word.Int(x.v)
		if w != x.want {
			t.Errorf("Int(%d) is %x, not %x", x.v, w, x.want)
		}
		if !word.IsInt(w) || word.IntOf(w) != x.back || word.RefOf(w) != 0 {
			t.Errorf("Int(%d) is told as %v, %d, %d", x.v, word.IsInt(w), word.IntOf(w), word.RefOf(w))
		}
	}
}

// P1.1: places as words.
func TestPlaces(t *testing.T) {
	for _, x := range []struct {
		at   int
		want uint32
		back int
	}{
		{0, 0, 0},
		{1, 2, 1},
		{5, 10, 5},
		{1<<31 - 1, 0xfffffffe, 1<<31 - 1},
		{1 << 31, 0xfffffffe, 1<<31 - 1},
		{math.MaxInt, 0xfffffffe, 1<<31 - 1},
		{-1, 0, 0},
		{math.MinInt, 0, 0},
	} {
		w := word.Ref(x.at)
		if w != x.want {
			t.Errorf("Ref(%d) is %x, not %x", x.at, w, x.want)
		}
		if word.IsInt(w) || word.RefOf(w) != x.back || word.IntOf(w) != 0 {
			t.Errorf("Ref(%d) is told as %v, %d, %d", x.at, word.IsInt(w), word.IntOf(w), word.RefOf(w))
		}
	}
}

// P1.2: what fits, and sums.
func TestSums(t *testing.T) {
	const most = api.MaxInt
	for _, x := range []struct {
		v    int
		want bool
	}{{0, true}, {most - 1, true}, {most, false}, {-most, true}, {-most - 1, false}, {math.MaxInt, false}, {math.MinInt, false}} {
		if word.Fits(x.v) != x.want {
			t.Errorf("Fits(%d)", x.v)
		}
	}
	for _, x := range []struct {
		a, b, sum int
		ok        bool
	}{
		{1, 2, 3, true},
		{-4, 1, -3, true},
		{most - 1, 0, most - 1, true},
		{most - 1, 1, 0, false},
		{most - 1, -most, -1, true},
		{-most, 0, -most, true},
		{-most, -1, 0, false},
		{most, -1, 0, false},
		{-1, most, 0, false},
		{-most - 1, 1, 0, false},
		{math.MaxInt, math.MinInt, 0, false},
		{math.MaxInt, math.MaxInt, 0, false},
		{math.MinInt, math.MinInt, 0, false},
	} {
		sum, ok := word.Add(x.a, x.b)
		if sum != x.sum || ok != x.ok {
			t.Errorf("Add(%d, %d) is %d, %v", x.a, x.b, sum, ok)
		}
	}
}

// P1.3: what is made is told, at all bits.
func TestMadeIsTold(t *testing.T) {
	for bit := 0; bit < 30; bit++ {
		for _, v := range []int{1 << bit, 1<<bit - 1, -1 << bit, -1<<bit - 1} {
			if got := word.IntOf(word.Int(v)); got != v {
				t.Errorf("number %d comes back as %d", v, got)
			}
		}
		if at := 1<<bit + 1; word.RefOf(word.Ref(at)) != at {
			t.Errorf("place %d comes back as %d", at, word.RefOf(word.Ref(at)))
		}
	}
}
