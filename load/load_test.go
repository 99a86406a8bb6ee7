package load_test

import (
	"math"
	"math/rand"
	"reflect"
	"testing"

	"colloquy/api"
	"colloquy/heap"
	"colloquy/image"
	"colloquy/kit"
	"colloquy/load"
	"colloquy/start"
	"colloquy/word"
)

// size is how many words a world has: three a thing, and one a field, and one for each four bytes.
func size(w api.World) int {
	n := 0
	for _, t := range w.L {
		n += 3 + len(t.F) + (len(t.B)+3)/4
	}
	return n
}

func agrees(t *testing.T, h *heap.Heap, at []int, w api.World) {
	t.Helper()
	if len(at) != len(w.L) {
		t.Fatalf("%d places, not %d", len(at), len(w.L))
	}
	for id, x := range w.L {
		p := at[id]
		if !h.Has(p) || h.Fmt(p) != x.Fmt || h.Size(p) != len(x.F)+len(x.B) || h.Hash(p) != x.Hash || h.Class(p) != at[x.Class] {
			t.Fatalf("thing %d at %d", id, p)
		}
		if colour, final := h.Mark(p); colour != 0 || final != x.Final {
			t.Fatalf("mark of %d", id)
		}
		for i, v := range x.F {
			want := word.Int(v.N)
			if v.Obj {
				want = word.Ref(at[v.N])
			}
			if h.Field(p, i) != want {
				t.Fatalf("field %d of %d", i, id)
			}
		}
		for i := range len(x.B) {
			if h.Byte(p, i) != int(x.B[i]) {
				t.Fatalf("byte %d of %d", i, id)
			}
		}
	}
	count := 0
	for p := h.Next(0); p != 0; p = h.Next(p) {
		count++
	}
	if used, _ := h.Words(); used != size(w) || count != len(w.L) {
		t.Fatalf("%d words of %d objects, not %d of %d", used, count, size(w), len(w.L))
	}
}

// P21.1, P21.2: each thing is an object, in their order.
func TestLoad(t *testing.T) {
	r := rand.New(rand.NewSource(1))
	for range 200 {
		w := kit.Any(r.Intn, r.Intn(40))
		w.Dead = make([]bool, len(w.L))[:r.Intn(2)*len(w.L)]
		before := image.Copy(w)
		words := size(w) + r.Intn(2)*r.Intn(100)
		h, at, ok := load.Load(w, words)
		if !ok {
			t.Fatal("no room")
		}
		if _, all := h.Words(); all != words {
			t.Fatalf("%d words", all)
		}
		next := 1
		for id, x := range w.L {
			if at[id] != next {
				t.Fatalf("thing %d is at %d", id, at[id])
			}
			next += 3 + len(x.F) + (len(x.B)+3)/4
		}
		agrees(t, h, at, w)
		if !reflect.DeepEqual(w, before) {
			t.Fatal("the world is turned")
		}
		if h, at, ok := load.Load(w, size(w)-1); h != nil || at != nil || ok {
			t.Fatal("with one word less")
		}
	}
}

// P21.1: where there is no room, or what may not be.
func TestRefused(t *testing.T) {
	w := start.World()
	for _, words := range []int{0, -1, math.MinInt, size(w) - 1} {
		if h, at, ok := load.Load(w, words); h != nil || at != nil || ok {
			t.Errorf("in %d words", words)
		}
	}
	for _, words := range []int{size(w), math.MaxInt} {
		if _, _, ok := load.Load(w, words); !ok {
			t.Errorf("in %d words", words)
		}
	}
	kit.Plain(&w, api.ClassArray)
	w.Dead = make([]bool, len(w.L))
	if _, _, ok := load.Load(w, 1000); !ok {
		t.Error("nothing is dead")
	}
	w.Dead[23] = true
	if h, at, ok := load.Load(w, 1000); h != nil || at != nil || ok {
		t.Error("something is dead")
	}
	w.Dead = nil
	w.L[3].Class = 4
	for _, bad := range []api.World{w, {}} {
		if h, at, ok := load.Load(bad, 1000); h != nil || at != nil || ok {
			t.Error("what may not be")
		}
	}
	big := start.World()
	for range 1100 {
		kit.Plain(&big, api.ClassArray, make([]api.Val, 60)...)
	}
	if _, _, ok := load.Load(big, math.MaxInt); ok {
		t.Error("more than any heap has")
	}
}

// P21.1: values as words.
func TestWord(t *testing.T) {
	at := []int{5, 70, 1 << 16}
	for _, x := range []struct {
		v    api.Val
		want uint32
	}{
		{kit.Num(0), 1}, {kit.Num(-1), 0xffffffff}, {kit.Num(api.MaxInt), 1<<30 + 1}, {kit.Num(math.MaxInt), 0x7fffffff}, {kit.Num(2), 5},
		{kit.Obj(0), 10}, {kit.Obj(1), 140}, {kit.Obj(2), 1 << 17},
		{kit.Obj(3), 0}, {kit.Obj(-1), 0}, {kit.Obj(math.MaxInt), 0}, {kit.Obj(math.MinInt), 0},
	} {
		if got := load.Word(x.v, at); got != x.want {
			t.Errorf("Word(%v) is %x, not %x", x.v, got, x.want)
		}
	}
	if load.Word(kit.Obj(0), nil) != 0 || load.Word(kit.Num(4), nil) != 9 {
		t.Error("where nothing is")
	}
}
