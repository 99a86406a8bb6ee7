package grey_test

import (
	"math"
	"testing"

	"colloquy/api"
	"colloquy/grey"
)

// P9.1: how many there may be.
func TestMost(t *testing.T) {
	for _, x := range []struct{ most, want int }{{1, 1}, {0, 1}, {-1, 1}, {math.MinInt, 1}, {2, 2}, {api.MaxGrey, api.MaxGrey}, {api.MaxGrey + 1, api.MaxGrey}, {math.MaxInt, api.MaxGrey}} {
		s := grey.New(x.most)
		if s.Len() != 0 || s.Over() {
			t.Errorf("New(%d) is not empty", x.most)
		}
		for i := range x.want {
			if !s.Push(i) || s.Len() != i+1 || s.Over() {
				t.Fatalf("New(%d): push %d", x.most, i)
			}
		}
		if s.Push(7) || s.Len() != x.want || !s.Over() {
			t.Errorf("New(%d): one more", x.most)
		}
	}
}

// P9.1: over, until it is cleared.
func TestOver(t *testing.T) {
	s := grey.New(1)
	if !s.Push(5) || s.Push(6) || !s.Over() {
		t.Fatal("push twice")
	}
	s.Clear()
	if s.Over() || s.Len() != 1 {
		t.Error("Clear")
	}
	if s.Push(6) || !s.Over() {
		t.Error("over again")
	}
	if v, ok := s.Pop(); v != 5 || !ok {
		t.Errorf("popped %d, %v", v, ok)
	}
	if !s.Over() {
		t.Error("not over by a Pop")
	}
	if !s.Push(8) || !s.Over() || s.Len() != 1 {
		t.Error("push where there is room again")
	}
	grey.New(1).Push(1)
	if v, ok := s.Pop(); v != 8 || !ok {
		t.Errorf("popped %d, %v", v, ok)
	}
	if v, ok := s.Pop(); v != 0 || ok || s.Len() != 0 {
		t.Errorf("popped %d, %v of none", v, ok)
	}
}

// P9.2: last in, first out.
func TestLastInFirstOut(t *testing.T) {
	s := grey.New(api.MaxGrey)
	var model []int
	for i := range 2000 {
		if i*i%7 < 4 {
			v := i*31 - 5000
			if s.Push(v) {
				model = append(model, v)
			}
		} else {
			v, ok := s.Pop()
			if ok != (len(model) > 0) {
				t.Fatal("Pop")
			}
			if ok {
				if v != model[len(model)-1] {
					t.Fatalf("popped %d", v)
				}
				model = model[:len(model)-1]
			}
		}
		if s.Len() != len(model) {
			t.Fatal("Len")
		}
	}
	for len(model) > 0 {
		if v, ok := s.Pop(); !ok || v != model[len(model)-1] {
			t.Fatalf("popped %d", v)
		}
		model = model[:len(model)-1]
	}
}
