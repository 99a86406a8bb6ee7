package twin_test

import (
	"math"
	"math/rand"
	"testing"

	"colloquy/api"
	"colloquy/ideal"
	"colloquy/kit"
	"colloquy/real"
	"colloquy/start"
	"colloquy/twin"
	"colloquy/word"
)

var obj, num, none = kit.Obj, kit.Num, kit.Obj(api.Nil)

// small is a world whose frame has something, weakly, too.
func small() api.World {
	w := start.World()
	kit.Plain(&w, api.ClassArray, num(1))                   // 23
	kit.Weak(&w, obj(23))                                   // 24
	kit.Plain(&w, api.ClassArray, obj(24), num(5), obj(23)) // 25
	kit.Sema(&w, 0)                                         // 26: lost
	method := kit.Method(&w, 0, 0, 0, kit.Code("int 1, pop, jump 0 0"))
	f := kit.Frame(&w, 0, method, obj(25))
	w.R = api.Regs{Proc: kit.Proc(&w, f, 1), Frame: f, Out: "o", In: "i", Exit: 4, Snaps: []string{"s"}}
	return w
}

func pair(t *testing.T, a, b api.World) (*ideal.Machine, *real.Machine) {
	t.Helper()
	x, err := ideal.New(a, 5)
	y, err1 := real.New(b, 2000, 5)
	if err != api.OK || err1 != api.OK {
		t.Fatal("no machines")
	}
	return x, y
}

// P26.1: what makes two machines not the same.
func TestSame(t *testing.T) {
	if !twin.Same(pair(t, small(), small())) {
		t.Fatal("of one world")
	}
	for what, turn := range map[string]func(w *api.World){
		"lost": func(w *api.World) { w.L[26].F[0] = num(3) },
	} {
		w := small()
		turn(&w)
		if !twin.Same(pair(t, w, small())) || !twin.Same(pair(t, small(), w)) {
			t.Errorf("%s: not the same", what)
		}
	}
	for what, turn := range map[string]func(w *api.World){
		"out":   func(w *api.World) { w.R.Out = "p" },
		"in":    func(w *api.World) { w.R.In = "j" },
		"how":   func(w *api.World) { w.R.How = api.Rests },
		"exit":  func(w *api.World) { w.R.Exit = 5 },
		"snaps": func(w *api.World) { w.R.Snaps = nil },
		"frame": func(w *api.World) { w.R.Frame = 23 },
		"field": func(w *api.World) { w.L[25].F[1] = num(6) },
		"weak":  func(w *api.World) { w.L[24].F[0] = none },
		"final": func(w *api.World) { w.L[23].Final = true },
		"last":  func(w *api.World) { w.Last++ },
	} {
		w := small()
		turn(&w)
		if twin.Same(pair(t, w, small())) || twin.Same(pair(t, small(), w)) {
			t.Errorf("%s: the same", what)
		}
	}
	a, b := pair(t, small(), small())
	a.Work(1)
	if twin.Same(a, b) {
		t.Error("phases")
	}
	b.Work(2)
	if !twin.Same(a, b) {
		t.Error("other units, the same phase")
	}
	b.Heap().SetField(b.At(26), 1, word.Int(6))
	if twin.Same(a, b) {
		t.Error("a field in the heap")
	}
	b.Heap().SetField(b.At(26), 1, 0)
	if _, ok := b.World(); ok || twin.Same(a, b) {
		t.Error("no world")
	}
}

// P26.1: where there are no machines, and no events.
func TestPart(t *testing.T) {
	bad := start.World()
	bad.L[0].Class = 7
	for _, x := range []struct {
		w     api.World
		words int
	}{{bad, 2000}, {api.World{}, 2000}, {small(), 10}, {small(), math.MinInt}} {
		if n, ok := twin.Part(x.w, x.words, 5, nil); n != 0 || ok {
			t.Errorf("%d, %v", n, ok)
		}
	}
	dead := small()
	dead.Dead = make([]bool, len(dead.L))
	dead.Dead[26] = true
	if n, ok := twin.Part(dead, 2000, 5, nil); n != 0 || ok {
		t.Error("something is dead")
	}
	if n, ok := twin.Part(small(), 2000, 5, nil); n != -1 || !ok {
		t.Error("no events")
	}
	l := []api.Event{{Kind: api.EvSteps, N: 40}, {Kind: api.EvWork, N: 60}, {Kind: api.EvTick}, {Kind: api.EvInput, S: "x"}, {Kind: 77}, {Kind: api.EvSteps, N: math.MinInt}, {Kind: api.EvWork, N: -1}}
	if n, ok := twin.Part(small(), 2000, 5, l); n != -1 || !ok {
		t.Errorf("%d, %v", n, ok)
	}
}

// P26.2, T1: Part answers -1, also where it is full in the end.
func TestNeverPart(t *testing.T) {
	for seed := range 40 {
		r := rand.New(rand.NewSource(int64(seed)))
		w := kit.Program(r.Intn)
		if n, ok := twin.Part(w, 2500+r.Intn(3000), 1+r.Intn(20), kit.Events(r.Intn, 40)); n != -1 || !ok {
			t.Errorf("seed %d: %d, %v", seed, n, ok)
		}
	}
}
