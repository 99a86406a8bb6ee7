package reach_test

import (
	"math/rand"
	"reflect"
	"slices"
	"testing"

	"colloquy/api"
	"colloquy/image"
	"colloquy/kit"
	"colloquy/reach"
	"colloquy/start"
)

var obj, num = kit.Obj, kit.Num

func firsts() []int {
	var l []int
	for at := range api.Specials {
		l = append(l, at)
	}
	return l
}

// P8.1: roots, each once, in their order.
func TestRoots(t *testing.T) {
	w := start.World()
	if got := reach.Roots(w); !slices.Equal(got, firsts()) {
		t.Errorf("roots of the first world: %v", got)
	}
	for range 12 {
		kit.Sema(&w, 0)
	}
	w.R = api.Regs{Proc: 30, Frame: 29, Ready: []int{28, 30, 25}, Wait: []api.Wait{{Sema: 34, Proc: 33}, {Sema: 22, Proc: 34}, {Sema: 31, Proc: 31}}, Due: []int{23, 33, 24, 5}}
	want := append(firsts(), 30, 29, 28, 25, 34, 33, 31, 23, 24)
	if got := reach.Roots(w); !slices.Equal(got, want) {
		t.Errorf("roots %v, not %v", got, want)
	}
}

// P8.1: classes and fields, but not the fields of Weak things.
func TestStrongAndAll(t *testing.T) {
	w := start.World()
	class := kit.Class(&w, 0, 0, 0, api.Weak)                                           // 23
	kit.Plain(&w, api.ClassArray)                                                       // 24: from a field
	kit.Plain(&w, api.ClassArray)                                                       // 25: from a Weak one's field
	kit.Plain(&w, api.ClassArray)                                                       // 26: from nothing
	kit.Plain(&w, api.ClassArray, obj(26), obj(24))                                     // 27: from nothing
	kit.Add(&w, api.Thing{Class: class, Fmt: api.Weak, F: []api.Val{obj(25), num(26)}}) // 28
	kit.Plain(&w, api.ClassArray, obj(24), num(27), obj(28), obj(29))                   // 29
	w.R.Frame = 29
	strong, all := reach.Strong(w), reach.All(w)
	if len(strong) != 30 || len(all) != 30 {
		t.Fatal("another number of places")
	}
	for at := range w.L {
		if want := at < 25 || at > 27; strong[at] != want {
			t.Errorf("strong %d is %v", at, strong[at])
		}
		if want := at < 26 || at > 27; all[at] != want {
			t.Errorf("all %d is %v", at, all[at])
		}
	}
}

// P8.1: each register is a root.
func TestRegisters(t *testing.T) {
	for at, r := range []api.Regs{{Proc: 23}, {Frame: 23}, {Ready: []int{1, 23}}, {Wait: []api.Wait{{Sema: 23, Proc: 1}}}, {Wait: []api.Wait{{Sema: 22, Proc: 23}}}, {Due: []int{23}}} {
		w := start.World()
		kit.Plain(&w, api.ClassArray, obj(24))
		kit.Plain(&w, api.ClassArray)
		if s := reach.Strong(w); s[23] || s[24] {
			t.Error("from nothing")
		}
		w.R = r
		if s := reach.Strong(w); !s[23] || !s[24] {
			t.Errorf("register %d", at)
		}
	}
}

// P8.1, P8.2: of worlds that may not be.
func TestNone(t *testing.T) {
	bad := start.World()
	bad.L[3].Class = 4
	for _, w := range []api.World{bad, {}} {
		if reach.Roots(w) != nil || reach.Strong(w) != nil || reach.All(w) != nil || !reflect.DeepEqual(reach.Canon(w), api.World{}) {
			t.Error("an answer")
		}
		if reach.Same(w, w) || reach.Same(start.World(), w) || reach.Same(w, start.World()) {
			t.Error("Same")
		}
	}
}

// P8.2: places are told anew everywhere, all else stays.
func TestCanon(t *testing.T) {
	w := start.World()
	kit.Plain(&w, api.ClassArray)                       // 23: goes
	a := kit.Plain(&w, api.ClassArray, obj(25), num(2)) // 24
	b := kit.Weak(&w, obj(26), obj(24))                 // 25
	c := kit.Sema(&w, 0)                                // 26
	kit.Plain(&w, api.ClassArray)                       // 27: dead
	kit.Plain(&w, api.ClassArray)                       // 28: goes
	d := kit.Proc(&w, a, 1)                             // 29
	class := kit.Class(&w, 0, 0, 0, api.Plain)          // 30
	e := kit.Add(&w, api.Thing{Class: class, Fmt: api.Bytes, B: "xy", Final: true})
	w.Dead = make([]bool, len(w.L))
	w.Dead[27] = true
	w.Last = 99
	w.R = api.Regs{Proc: d, Frame: a, Ready: []int{d, e}, Wait: []api.Wait{{Sema: c, Proc: d}, {Sema: 22, Proc: e}}, Due: []int{e, b}, Out: "o", In: "i", How: 3, Exit: 4, Snaps: []string{"s"}}
	want := start.World()
	want.L = append(want.L,
		api.Thing{Class: api.ClassArray, Fmt: api.Plain, Hash: 25, F: []api.Val{obj(24), num(2)}},
		api.Thing{Class: api.ClassWeak, Fmt: api.Weak, Hash: 26, F: []api.Val{obj(25), obj(23)}},
		api.Thing{Class: api.ClassSema, Fmt: api.Plain, Hash: 27, F: []api.Val{num(0)}},
		api.Thing{Class: api.ClassProc, Fmt: api.Plain, Hash: 30, F: []api.Val{obj(23), num(1)}},
		api.Thing{Class: api.ClassClass, Fmt: api.Plain, Hash: 31, F: []api.Val{obj(0), obj(0), obj(0), num(0), num(1)}},
		api.Thing{Class: 27, Fmt: api.Bytes, Hash: 32, B: "xy", Final: true})
	want.Last = 99
	want.R = api.Regs{Proc: 26, Frame: 23, Ready: []int{26, 28}, Wait: []api.Wait{{Sema: 25, Proc: 26}, {Sema: 22, Proc: 28}}, Due: []int{28, 24}, Out: "o", In: "i", How: 3, Exit: 4, Snaps: []string{"s"}}
	before := image.Copy(w)
	got := reach.Canon(w)
	for at := range got.L {
		if len(got.L[at].F) == 0 {
			got.L[at].F = nil
		}
	}
	if len(got.Dead) != 0 {
		t.Error("something may be dead")
	}
	got.Dead = nil
	if !reflect.DeepEqual(got, want) {
		t.Errorf("\n%v\n%v", got, want)
	}
	if !reach.Same(w, want) {
		t.Error("not the same as its canon")
	}
	for i := range got.L {
		clear(got.L[i].F)
	}
	clear(got.R.Ready)
	clear(got.R.Wait)
	clear(got.R.Due)
	clear(got.R.Snaps)
	if !reflect.DeepEqual(w, before) {
		t.Error("the world is turned")
	}
}

// P8.2: what makes two worlds not the same.
func TestSame(t *testing.T) {
	world := func() api.World {
		w := start.World()
		kit.Plain(&w, api.ClassArray, obj(24), num(1))
		kit.Bytes(&w, api.ClassText, "ab")
		kit.Plain(&w, api.ClassArray)
		w.R = api.Regs{Proc: 23, Frame: 23, Ready: []int{23, 24}, Wait: []api.Wait{{Sema: 22, Proc: 23}}, Due: []int{24}, Out: "o", In: "i", How: 1, Exit: 2, Snaps: []string{"s"}}
		w.Last = 40
		return w
	}
	if !reach.Same(world(), world()) {
		t.Fatal("one and the same world")
	}
	for name, turn := range map[string]func(w *api.World){
		"nothing leads to it": func(w *api.World) { w.L[25].F = []api.Val{num(1)} },
		"empty, not nil":      func(w *api.World) { w.L[0].F = []api.Val{} },
		"none dead":           func(w *api.World) { w.Dead = make([]bool, len(w.L)) },
		"one dead":            func(w *api.World) { w.Dead = make([]bool, len(w.L)); w.Dead[25] = true },
		"one away":            func(w *api.World) { w.L = w.L[:25] },
	} {
		w := world()
		turn(&w)
		if !reach.Same(w, world()) || !reach.Same(world(), w) {
			t.Errorf("%s: not the same", name)
		}
	}
	for name, turn := range map[string]func(w *api.World){
		"class":     func(w *api.World) { w.L[23].Class = api.ClassPoint },
		"format":    func(w *api.World) { w.L[23].Fmt = api.Weak },
		"hash":      func(w *api.World) { w.L[24].Hash, w.L[25].Hash = 30, 31 },
		"final":     func(w *api.World) { w.L[24].Final = true },
		"field":     func(w *api.World) { w.L[23].F[1] = num(2) },
		"obj":       func(w *api.World) { w.L[23].F[1] = obj(1) },
		"fields":    func(w *api.World) { w.L[23].F = append(w.L[23].F, num(0)) },
		"byte":      func(w *api.World) { w.L[24].B = "ac" },
		"bytes":     func(w *api.World) { w.L[24].B = "a" },
		"more":      func(w *api.World) { w.L[23].F[1] = obj(25) },
		"last":      func(w *api.World) { w.Last = 41 },
		"proc":      func(w *api.World) { w.R.Proc = 24 },
		"frame":     func(w *api.World) { w.R.Frame = 0 },
		"ready":     func(w *api.World) { w.R.Ready = []int{24, 23} },
		"wait sema": func(w *api.World) { w.R.Wait[0].Sema = 23 },
		"wait proc": func(w *api.World) { w.R.Wait[0].Proc = 24 },
		"due":       func(w *api.World) { w.R.Due = nil },
		"out":       func(w *api.World) { w.R.Out = "" },
		"in":        func(w *api.World) { w.R.In = "j" },
		"how":       func(w *api.World) { w.R.How = 0 },
		"exit":      func(w *api.World) { w.R.Exit = 0 },
		"snaps":     func(w *api.World) { w.R.Snaps = []string{"t"} },
	} {
		w := world()
		turn(&w)
		if reach.Same(w, world()) || reach.Same(world(), w) {
			t.Errorf("%s: the same", name)
		}
	}
}

// P8.3: Canon twice is once; what is Strong is All; Canon has just what All says.
func TestTwiceIsOnce(t *testing.T) {
	r := rand.New(rand.NewSource(1))
	for range 300 {
		w := kit.Any(r.Intn, r.Intn(40))
		c := reach.Canon(w)
		if !image.Check(c) || !reflect.DeepEqual(reach.Canon(c), c) || !reach.Same(c, w) {
			t.Fatal("Canon twice")
		}
		strong, all := reach.Strong(w), reach.All(w)
		count := 0
		for at := range w.L {
			if strong[at] && !all[at] {
				t.Fatal("Strong, and not All")
			}
			if all[at] {
				count++
			}
		}
		if count != len(c.L) {
			t.Fatalf("%d things, not %d", len(c.L), count)
		}
		for _, yes := range reach.All(c) {
			if !yes {
				t.Fatal("something in Canon that nothing leads to")
			}
		}
	}
}
