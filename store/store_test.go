package store_test

import (
	"math"
	"testing"

	"colloquy/api"
	"colloquy/store"
)

func filled(n int) *store.Store {
	s := store.New(n)
	for i := range n {
		s.Put(i, uint32(100+i))
	}
	return s
}

func words(s *store.Store) []uint32 {
	var l []uint32
	for i := range s.Len() {
		l = append(l, s.Get(i))
	}
	return l
}

func same(a, b []uint32) bool {
	if len(a) != len(b) {
		return false
	}
	for i := range a {
		if a[i] != b[i] {
			return false
		}
	}
	return true
}

// P3.1: so many words, cut to what there may be.
func TestNew(t *testing.T) {
	for _, x := range []struct{ n, want int }{{0, 0}, {-1, 0}, {math.MinInt, 0}, {5, 5}, {api.MaxWords, api.MaxWords}, {api.MaxWords + 1, api.MaxWords}, {math.MaxInt, api.MaxWords}} {
		s := store.New(x.n)
		if s.Len() != x.want {
			t.Errorf("New(%d) has %d words", x.n, s.Len())
		}
		for _, w := range words(s) {
			if w != 0 {
				t.Fatalf("New(%d) has a word that is not 0", x.n)
			}
		}
	}
}

// P3.1, P3.2: what is put is got, nothing beyond, nothing else turned.
func TestGetPut(t *testing.T) {
	s := store.New(2)
	for _, at := range []int{2, 3, -1, math.MaxInt, math.MinInt} {
		if s.Put(at, 1) || s.Get(at) != 0 {
			t.Errorf("a word at %d", at)
		}
	}
	if !same(words(s), []uint32{0, 0}) {
		t.Error("a refused Put turned a word")
	}
	if !s.Put(1, math.MaxUint32) || s.Get(1) != math.MaxUint32 || s.Get(0) != 0 {
		t.Error("Put at the last word")
	}
	if !s.Put(0, 7) || !same(words(s), []uint32{7, math.MaxUint32}) {
		t.Error("Put at the first word")
	}
	if store.New(2).Get(0) != 0 {
		t.Error("two stores have something in common")
	}
}

// P3.1: words stand where they are moved to as they were.
func TestMove(t *testing.T) {
	for _, x := range []struct {
		from, to, n int
		want        []uint32
	}{
		{0, 3, 2, []uint32{100, 101, 102, 100, 101}},
		{3, 0, 2, []uint32{103, 104, 102, 103, 104}},
		{0, 1, 4, []uint32{100, 100, 101, 102, 103}},
		{1, 0, 4, []uint32{101, 102, 103, 104, 104}},
		{2, 2, 3, []uint32{100, 101, 102, 103, 104}},
		{0, 0, 5, []uint32{100, 101, 102, 103, 104}},
		{5, 0, 0, []uint32{100, 101, 102, 103, 104}},
		{0, 5, 0, []uint32{100, 101, 102, 103, 104}},
	} {
		s := filled(5)
		if !s.Move(x.from, x.to, x.n) || !same(words(s), x.want) {
			t.Errorf("Move(%d, %d, %d) leaves %v", x.from, x.to, x.n, words(s))
		}
	}
}

// P3.1: a move that does not lie within is refused, and turns nothing.
func TestMoveRefused(t *testing.T) {
	for _, x := range [][3]int{
		{0, 0, -1}, {0, 0, 6}, {1, 0, 5}, {0, 1, 5}, {-1, 0, 1}, {0, -1, 1}, {5, 0, 1}, {0, 5, 1},
		{6, 0, 0}, {0, 6, 0}, {-1, 0, 0}, {0, -1, 0}, {math.MaxInt, 0, 0}, {0, math.MinInt, 0},
		{0, 0, math.MaxInt}, {1, 1, math.MaxInt}, {math.MaxInt, math.MaxInt, math.MaxInt}, {0, 0, math.MinInt},
	} {
		s := filled(5)
		if s.Move(x[0], x[1], x[2]) || !same(words(s), words(filled(5))) {
			t.Errorf("Move(%d, %d, %d) is done", x[0], x[1], x[2])
		}
	}
	if e := store.New(0); !e.Move(0, 0, 0) || e.Move(0, 0, 1) {
		t.Error("Move where there are no words")
	}
}
