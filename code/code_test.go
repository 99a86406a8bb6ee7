package code_test

import (
	"math"
	"strings"
	"testing"

	"colloquy/code"
)

const all = "self temp lit field set setfield pop dup int const send super jump iftrue iffalse ret up block outer setouter array frame"

// P13.1: instructions as bytes, by their numbers.
func TestGet(t *testing.T) {
	s := "\x09\x81\x00\x16\xff\x01\x00\x00\x00"
	for _, x := range []struct {
		s    string
		pc   int
		want code.Ins
		ok   bool
	}{
		{s, 0, code.Ins{Op: 9, A: 129}, true},
		{s, 1, code.Ins{Op: 22, A: 255, B: 1}, true},
		{s, 2, code.Ins{}, true},
		{s, 3, code.Ins{}, false},
		{s, -1, code.Ins{}, false},
		{s, math.MaxInt, code.Ins{}, false},
		{s, math.MinInt, code.Ins{}, false},
		{s, math.MaxInt/3 + 1, code.Ins{}, false},
		{s[:8], 1, code.Ins{Op: 22, A: 255, B: 1}, true},
		{s[:8], 2, code.Ins{}, false},
		{s[:7], 2, code.Ins{}, false},
		{"", 0, code.Ins{}, false},
	} {
		if got, ok := code.Get(x.s, x.pc); got != x.want || ok != x.ok {
			t.Errorf("Get(%x, %d) is %v, %v", x.s, x.pc, got, ok)
		}
	}
	for n, want := range []int{0, 0, 0, 1, 1, 1, 2} {
		if got := code.Len(s[:n]); got != want {
			t.Errorf("Len of %d bytes is %d", n, got)
		}
	}
}

// P13.1: each number's lowest eight bits.
func TestPut(t *testing.T) {
	if got := code.Put([]code.Ins{{Op: 9, A: 129}, {Op: 256 + 22, A: -1, B: math.MinInt + 1}}); got != "\x09\x81\x00\x16\xff\x01" {
		t.Errorf("%x", got)
	}
	if code.Put(nil) != "" || code.Put([]code.Ins{}) != "" {
		t.Error("of none")
	}
}

// P13.2: Ops by number and by name.
func TestNames(t *testing.T) {
	if code.Last != 22 {
		t.Error("Last")
	}
	for i, name := range strings.Fields(all) {
		if code.Name(i+1) != name || code.Op(name) != i+1 {
			t.Errorf("%s is %d, %d is %s", name, code.Op(name), i+1, code.Name(i+1))
		}
	}
	for _, op := range []int{0, -1, 23, 256, math.MaxInt, math.MinInt} {
		if code.Name(op) != "" {
			t.Errorf("Op %d is %s", op, code.Name(op))
		}
	}
	for _, name := range []string{"", " ", "Self", "selfs", "sel", "nop"} {
		if code.Op(name) != 0 {
			t.Errorf("%q is %d", name, code.Op(name))
		}
	}
}

// P13.3: what is put is got.
func TestPutIsGot(t *testing.T) {
	var l []code.Ins
	for i := range 256 {
		l = append(l, code.Ins{Op: i, A: 255 - i, B: i * 7 % 256})
	}
	s := code.Put(l)
	if code.Len(s) != len(l) {
		t.Fatal("Len")
	}
	for i := range l {
		if got, ok := code.Get(s, i); !ok || got != l[i] {
			t.Errorf("%v comes back as %v", l[i], got)
		}
	}
}
