package klass_test

import (
	"math"
	"testing"

	"colloquy/api"
	"colloquy/image"
	"colloquy/kit"
	"colloquy/klass"
	"colloquy/object"
	"colloquy/start"
)

var obj, num, none = kit.Obj, kit.Num, kit.Obj(api.Nil)

var wild = []int{-1, 1000, math.MaxInt, math.MinInt}

func made(t *testing.T, w api.World) *object.Mem {
	t.Helper()
	if !image.Check(w) {
		t.Fatal("no image")
	}
	m, _ := object.New(w, 50)
	return m
}

// P12.1: what is a class, and what class a value has.
func TestIs(t *testing.T) {
	w := start.World()
	kit.Plain(&w, api.ClassArray, none, none, none, num(0), num(1))          // 23: a class of no ClassClass
	kit.Plain(&w, api.ClassArray, none, none, none, num(0))                  // 24
	kit.Weak(&w, none, none, none, num(0), num(1))                           // 25
	kit.Plain(&w, api.ClassArray, none, none, none, num(61), num(1))         // 26
	kit.Plain(&w, api.ClassArray, none, none, none, num(60), num(0))         // 27
	kit.Plain(&w, api.ClassArray, none, none, none, num(60), num(3), num(9)) // 28
	kit.Plain(&w, 23, none)                                                  // 29
	kit.Class(&w, 0, 0, 0, api.Plain)                                        // 30: dead
	w.Dead = make([]bool, len(w.L))
	w.Dead[30] = true
	m := made(t, w)
	for id := range 31 {
		want := id >= api.ClassNil && id <= api.ClassPoint || id == 23 || id == 28
		if klass.Is(m, id) != want {
			t.Errorf("Is(%d) is %v", id, !want)
		}
	}
	for _, x := range [][2]int{{0, api.ClassNil}, {1, api.ClassTrue}, {3, api.ClassClass}, {22, api.ClassSema}, {25, api.ClassWeak}, {29, 23}, {30, 0}, {31, 0}, {-1, 0}} {
		if got := klass.ClassOf(m, obj(x[0])); got != x[1] {
			t.Errorf("class of %d is %d", x[0], got)
		}
	}
	for _, n := range append(wild, 0, 7) {
		if got := klass.ClassOf(m, num(n)); got != api.ClassInt {
			t.Errorf("class of a number is %d", got)
		}
	}
	for _, id := range wild {
		if klass.Is(m, id) || klass.ClassOf(m, obj(id)) != 0 {
			t.Errorf("a thing %d", id)
		}
	}
}

// P12.2: what a class understands, and those behind it.
func TestFind(t *testing.T) {
	w := start.World()
	var name [6]int
	for i := range name {
		name[i] = kit.Bytes(&w, api.ClassName, "n") // 23 to 28
	}
	top := kit.Plain(&w, api.ClassArray, obj(name[0]), obj(5), obj(name[1]), obj(6), num(3), obj(8), obj(name[2]), num(7), obj(name[1]), obj(7), obj(name[5]))
	low := kit.Plain(&w, api.ClassArray, none, obj(name[0]), obj(name[0]), obj(9), obj(name[3]), obj(0), obj(name[1]))
	super := kit.Class(&w, 0, top, 0, api.Plain)
	class := kit.Class(&w, super, low, 0, api.Plain)
	weakDict := kit.Class(&w, super, kit.Weak(&w, obj(name[0]), obj(11)), 0, api.Plain)
	noDict := kit.Class(&w, super, 0, 0, api.Plain)
	w.L[noDict].F[1] = num(4)
	notClass := kit.Plain(&w, api.ClassArray, obj(super), obj(low))
	alone := kit.Class(&w, 0, low, 0, api.Plain)
	w.L[alone].F[0] = num(super)
	bytes := kit.Bytes(&w, api.ClassText, "abc")
	m := made(t, w)
	for _, x := range []struct {
		class, name, at int
		ok              bool
	}{
		{super, name[0], 5, true},
		{super, name[1], 6, true},  // the first pair
		{super, name[2], 0, false}, // its second one is none
		{super, name[3], 0, false},
		{super, name[5], 0, false}, // no pair
		{super, 5, 0, false},       // a second one
		{super, 3, 0, false},       // a number
		{class, name[0], 9, true},
		{class, name[1], 6, true}, // a first one without a second is no pair
		{class, name[2], 0, false},
		{class, name[3], 0, true}, // Nil is a thing
		{class, 0, name[0], true},
		{weakDict, name[0], 5, true},
		{noDict, name[0], 5, true},
		{notClass, name[0], 5, true}, // what it has beside F[0] is not looked at
		{alone, name[0], 9, true},
		{alone, name[1], 0, false}, // a number is no class behind it
		{bytes, name[0], 0, false},
		{api.ClassArray, name[0], 0, false},
		{class, -1, 0, false},
		{class, 1000, 0, false},
	} {
		if at, ok := klass.Find(m, x.class, x.name); at != x.at || ok != x.ok {
			t.Errorf("Find(%d, %d) is %d, %v", x.class, x.name, at, ok)
		}
	}
	for _, class := range wild {
		if at, ok := klass.Find(m, class, name[0]); at != 0 || ok {
			t.Errorf("Find in %d", class)
		}
	}
	// what breaks off: a second one that is none hides what is behind
	m.Set(low, 3, num(1))
	if at, ok := klass.Find(m, class, name[0]); at != 0 || ok {
		t.Error("a second one that is none")
	}
}

// links is so many classes, one behind the other, the last of which understands 19 as 20, then a class that understands all.
func links(n int) (api.World, int) {
	w := start.World()
	dict := kit.Plain(&w, api.ClassArray, obj(19), obj(20)) // 23
	at := kit.Class(&w, 0, dict, 0, api.Plain)              // 24
	for range n - 1 {
		at = kit.Class(&w, at, 0, 0, api.Plain)
	}
	return w, at
}

// P12.2, P12.3: at most 100 are looked at, and a ring ends.
func TestChains(t *testing.T) {
	for _, x := range []struct {
		n  int
		ok bool
	}{{1, true}, {2, true}, {100, true}, {101, false}} {
		w, at := links(x.n)
		m := made(t, w)
		if got, ok := klass.Find(m, at, 19); ok != x.ok || ok && got != 20 || !ok && got != 0 {
			t.Errorf("%d classes: %d, %v", x.n, got, ok)
		}
		id, ok := m.Make(at, 0)
		if !ok || klass.Kind(m, obj(id), 24) != x.ok {
			t.Errorf("%d classes: kind %v", x.n, !x.ok)
		}
	}
	w, at := links(3)
	w.L[24].F[0] = obj(at)
	m := made(t, w)
	if _, ok := klass.Find(m, at, 21); ok {
		t.Error("found in a ring")
	}
	if klass.Kind(m, obj(at), 22) {
		t.Error("kind in a ring")
	}
}

// P12.3: kinds.
func TestKind(t *testing.T) {
	w := start.World()
	odd := kit.Plain(&w, api.ClassArray, obj(7))   // 23: no class
	super := kit.Class(&w, odd, 0, 0, api.Plain)   // 24
	class := kit.Class(&w, super, 0, 0, api.Plain) // 25
	it := kit.Plain(&w, class)                     // 26
	w.L[api.ClassInt].F[0] = obj(super)
	m := made(t, w)
	for _, class := range []int{class, super, odd, 7, 0} {
		if !klass.Kind(m, obj(it), class) {
			t.Errorf("kind %d", class)
		}
	}
	for _, class := range append(wild, 8, it, api.ClassInt, 1) {
		if klass.Kind(m, obj(it), class) {
			t.Errorf("kind %d", class)
		}
	}
	if !klass.Kind(m, num(5), api.ClassInt) || !klass.Kind(m, num(5), super) || klass.Kind(m, num(5), class) {
		t.Error("a number's kind")
	}
	if klass.Kind(m, obj(1000), class) || klass.Kind(m, obj(-1), class) {
		t.Error("the kind of what there is not")
	}
}
