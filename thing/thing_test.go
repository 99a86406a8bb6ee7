package thing_test

import (
	"math"
	"math/rand"
	"reflect"
	"slices"
	"strings"
	"testing"

	"colloquy/api"
	"colloquy/image"
	"colloquy/kit"
	"colloquy/object"
	"colloquy/start"
	"colloquy/thing"
)

var obj, num, none = kit.Obj, kit.Num, kit.Obj(api.Nil)

// Places in the world that most tests begin with.
const (
	super   = 23
	class   = 24 // behind it super; of two fields
	plain   = 25 // of class: 7, plain, 9
	weak    = 26 // plain, 5
	bytes   = 27 // "ab"
	p       = 28 // the point 2, 3
	q       = 29 // the point 4, 5
	dead    = 30
	nothing = 31
)

func small() api.World {
	w := start.World()
	kit.Class(&w, 0, 0, 0, api.Plain)
	kit.Class(&w, super, 0, 2, api.Plain)
	kit.Plain(&w, class, num(7), obj(plain), num(9))
	kit.Weak(&w, obj(plain), num(5))
	kit.Bytes(&w, api.ClassText, "ab")
	kit.Plain(&w, api.ClassPoint, num(2), num(3))
	kit.Plain(&w, api.ClassPoint, num(4), num(5))
	kit.Plain(&w, api.ClassArray)
	w.Dead = make([]bool, len(w.L))
	w.Dead[dead] = true
	return w
}

func made(t *testing.T, w api.World) *object.Mem {
	t.Helper()
	if !image.Check(w) {
		t.Fatal("no image")
	}
	m, _ := object.New(w, 90)
	return m
}

func turned(t *testing.T, turn func(w *api.World)) *object.Mem {
	w := small()
	turn(&w)
	return made(t, w)
}

// fails tells that a primitive fails, and turns nothing.
func fails(t *testing.T, m *object.Mem, n int, self api.Val, args ...api.Val) {
	t.Helper()
	before := m.World()
	if v, ok := thing.Op(m, n, self, args); v != (api.Val{}) || ok {
		t.Errorf("Op %d of %v, %v is %v, %v", n, self, args, v, ok)
	}
	if !reflect.DeepEqual(m.World(), before) {
		t.Errorf("Op %d of %v, %v fails, and turns something", n, self, args)
	}
}

// gives tells that a primitive answers.
func gives(t *testing.T, m *object.Mem, want api.Val, n int, self api.Val, args ...api.Val) {
	t.Helper()
	if v, ok := thing.Op(m, n, self, args); v != want || !ok {
		t.Errorf("Op %d of %v, %v is %v, %v, not %v", n, self, args, v, ok, want)
	}
}

// P18.1: how many arguments.
func TestArgs(t *testing.T) {
	want := map[int]int{20: 1, 24: 1, 25: 2, 27: 1, 28: 1, 32: 1, 34: 1, 35: 1, 36: 1, 37: 1}
	for n := -5; n < 70; n++ {
		x := want[n]
		if n < 20 || n > 38 {
			x = -1
		}
		if got := thing.Args(n); got != x {
			t.Errorf("Args(%d) is %d", n, got)
		}
	}
	if thing.Args(math.MaxInt) != -1 || thing.Args(math.MinInt) != -1 {
		t.Error("Args of others")
	}
}

// P18.2: another number of arguments, and values that may not be.
func TestFails(t *testing.T) {
	m := made(t, small())
	one := []api.Val{num(1), obj(plain), obj(1)}
	for n := 18; n < 41; n++ {
		for count := range 4 {
			if count == thing.Args(n) {
				continue
			}
			for _, self := range []api.Val{obj(plain), obj(p), num(3), obj(class)} {
				fails(t, m, n, self, one[:count]...)
			}
		}
		for _, bad := range []api.Val{obj(dead), obj(nothing), obj(-1), obj(math.MinInt), num(api.MaxInt), num(-api.MaxInt - 1), num(math.MaxInt)} {
			if count := thing.Args(n); count >= 0 {
				fails(t, m, n, bad, one[:count]...)
			}
			if thing.Args(n) == 1 {
				fails(t, m, n, obj(plain), bad)
				fails(t, m, n, obj(class), bad)
				fails(t, m, n, num(1), bad)
			}
			if thing.Args(n) == 2 {
				fails(t, m, n, obj(plain), num(1), bad)
				fails(t, m, n, obj(plain), bad, num(1))
			}
		}
	}
	for _, n := range []int{0, 1, 19, 39, 50, math.MaxInt, math.MinInt} {
		fails(t, m, n, obj(plain))
		fails(t, m, n, num(1), num(1))
	}
}

// P18.2: 20 to 23.
func TestAsked(t *testing.T) {
	m := made(t, small())
	gives(t, m, obj(1), 20, obj(plain), obj(plain))
	gives(t, m, obj(2), 20, obj(plain), obj(weak))
	gives(t, m, obj(1), 20, num(plain), num(plain))
	gives(t, m, obj(2), 20, obj(plain), num(plain))
	gives(t, m, obj(2), 20, num(4), num(5))
	gives(t, m, obj(1), 20, none, none)
	gives(t, m, obj(class), 21, obj(plain))
	gives(t, m, obj(api.ClassNil), 21, none)
	gives(t, m, obj(api.ClassInt), 21, num(-3))
	gives(t, m, num(26), 22, obj(plain))
	gives(t, m, num(1), 22, none)
	gives(t, m, num(7), 22, num(7))
	gives(t, m, num(-api.MaxInt), 22, num(-api.MaxInt))
	gives(t, m, num(3), 23, obj(plain))
	gives(t, m, num(2), 23, obj(weak))
	gives(t, m, num(2), 23, obj(bytes))
	gives(t, m, num(0), 23, none)
	fails(t, m, 23, num(3))
}

// P18.2: 24 and 25.
func TestElements(t *testing.T) {
	m := made(t, small())
	gives(t, m, num(7), 24, obj(plain), num(1))
	gives(t, m, num(9), 24, obj(plain), num(3))
	gives(t, m, obj(plain), 24, obj(weak), num(1))
	gives(t, m, num('b'), 24, obj(bytes), num(2))
	gives(t, m, num(0), 24, obj(api.SemaDue), num(1))
	for _, i := range []api.Val{num(0), num(-1), num(4), num(api.MaxInt - 1), num(-api.MaxInt), obj(1), obj(0)} {
		fails(t, m, 24, obj(plain), i)
		fails(t, m, 25, obj(plain), i, num(1))
		fails(t, m, 24, obj(bytes), i)
		fails(t, m, 25, obj(bytes), i, num(1))
		fails(t, m, 24, num(5), i)
		fails(t, m, 25, num(5), i, num(1))
	}
	fails(t, m, 24, none, num(1))
	gives(t, m, obj(class), 25, obj(plain), num(2), obj(class))
	gives(t, m, num(-1), 25, obj(weak), num(2), num(-1))
	gives(t, m, num(255), 25, obj(bytes), num(1), num(255))
	gives(t, m, num(0), 25, obj(bytes), num(2), num(0))
	if m.Get(plain, 1) != obj(class) || m.Get(plain, 0) != num(7) || m.Get(weak, 1) != num(-1) || m.Thing(bytes).B != "\xff\x00" {
		t.Error("what stands there")
	}
	for _, v := range []api.Val{num(256), num(-1), obj(1)} {
		fails(t, m, 25, obj(bytes), num(1), v)
	}
	fails(t, m, 25, obj(class), num(5), num(9)) // object's Set says no
	gives(t, m, num(2), 25, obj(class), num(5), num(2))
	gives(t, m, num(6), 25, obj(api.Specials), num(1), num(6))
	fails(t, m, 25, obj(api.SemaDue), num(1), num(1))
	fails(t, m, 25, obj(api.NameLost), num(1), num(1))
}

// P18.2: 26 and 27.
func TestInstances(t *testing.T) {
	m := made(t, small())
	gives(t, m, obj(nothing), 26, obj(class))
	gives(t, m, obj(nothing+1), 27, obj(class), num(2))
	gives(t, m, obj(nothing+2), 27, obj(api.ClassText), num(200))
	gives(t, m, obj(nothing+3), 27, obj(class), num(0))
	if x := m.Thing(nothing + 1); x.Class != class || !slices.Equal(x.F, []api.Val{none, none, none, none}) || x.Hash != 33 {
		t.Errorf("%v", x)
	}
	fails(t, m, 26, obj(plain))
	fails(t, m, 26, num(3))
	fails(t, m, 27, obj(class), num(-1))
	fails(t, m, 27, obj(class), num(59))
	fails(t, m, 27, obj(class), obj(1))
	fails(t, m, 27, obj(class), none)
	fails(t, m, 27, num(class), num(1))
	fails(t, m, 27, obj(api.ClassText), num(201))
	m = turned(t, func(w *api.World) { w.Last = api.MaxObjects })
	fails(t, m, 26, obj(class))
	fails(t, m, 27, obj(class), num(0))
	fails(t, m, 29, obj(class))
	fails(t, m, 33, obj(plain))
	fails(t, m, 34, obj(p), obj(q))
}

// P18.2: 28 and 31.
func TestBecomeAndWatch(t *testing.T) {
	m := made(t, small())
	fails(t, m, 28, obj(plain), obj(plain))
	fails(t, m, 28, obj(plain), num(weak))
	fails(t, m, 28, num(plain), obj(weak))
	fails(t, m, 28, obj(plain), obj(class))
	fails(t, m, 28, obj(api.SemaDue), obj(plain))
	gives(t, m, obj(plain), 28, obj(plain), obj(bytes))
	if m.Thing(plain).B != "ab" || m.Thing(bytes).Class != class || m.Thing(plain).Hash != 26 {
		t.Error("become")
	}
	fails(t, m, 31, num(4))
	fails(t, m, 31, obj(api.SemaDue))
	gives(t, m, obj(weak), 31, obj(weak))
	if !m.Thing(weak).Final {
		t.Error("watched")
	}
}

// P18.2: 29 and 30.
func TestTold(t *testing.T) {
	m := made(t, small())
	gives(t, m, obj(nothing), 29, obj(api.ClassPoint))
	if x := m.Thing(nothing); x.Class != api.ClassArray || x.Fmt != api.Plain || !slices.Equal(x.F, []api.Val{obj(p), obj(q)}) {
		t.Errorf("%v", x)
	}
	gives(t, m, obj(nothing+1), 29, obj(api.ClassArray)) // not the new one itself
	if x := m.Thing(nothing + 1); !slices.Equal(x.F, []api.Val{obj(nothing)}) {
		t.Errorf("%v", x)
	}
	gives(t, m, obj(nothing+2), 30, obj(plain))
	if x := m.Thing(nothing + 2); !slices.Equal(x.F, []api.Val{obj(plain), obj(weak)}) {
		t.Errorf("%v", x)
	}
	gives(t, m, obj(nothing+3), 29, obj(plain))
	if x := m.Thing(nothing + 3); len(x.F) != 0 {
		t.Errorf("%v", x)
	}
	fails(t, m, 29, num(5))
	fails(t, m, 30, num(5))
	m = turned(t, func(w *api.World) { w.L[api.ClassArray].F[3] = num(2) })
	gives(t, m, obj(nothing), 29, obj(api.ClassPoint))
	if x := m.Thing(nothing); !slices.Equal(x.F, []api.Val{none, none, obj(p), obj(q)}) {
		t.Errorf("%v", x)
	}
	m = turned(t, func(w *api.World) { w.L[api.ClassArray].F[3] = num(59) })
	fails(t, m, 29, obj(api.ClassPoint))
	fails(t, m, 30, obj(plain))
	m = turned(t, func(w *api.World) { w.L[api.ClassArray].F[4] = num(api.Bytes) })
	fails(t, m, 29, obj(api.ClassPoint))
	fails(t, m, 30, obj(plain))
	m = turned(t, func(w *api.World) { w.L[api.ClassArray].F[4] = num(api.Weak) })
	gives(t, m, obj(nothing), 29, obj(api.ClassPoint))
	w := small()
	for range 59 {
		kit.Plain(&w, api.ClassPoint)
	}
	m = made(t, w)
	fails(t, m, 29, obj(api.ClassPoint)) // sixty-one
	w.L[q].Class = class
	m = made(t, w)
	gives(t, m, obj(len(w.L)), 29, obj(api.ClassPoint))
}

// P18.2, P18.3: what 29 and 30 tell is shaded, where they fail, too.
func TestToldIsShaded(t *testing.T) {
	for _, format := range []int{api.Plain, api.Bytes} {
		m := turned(t, func(w *api.World) { w.L[api.ClassArray].F[4] = num(format) })
		m.Mark()
		_, ok := thing.Op(m, 29, obj(api.ClassPoint), nil)
		if ok != (format == api.Plain) || m.Colour(p) != 1 || m.Colour(q) != 1 || m.Colour(plain) != 0 {
			t.Error("29")
		}
		_, ok = thing.Op(m, 30, obj(plain), nil)
		if ok != (format == api.Plain) || m.Colour(plain) != 1 || m.Colour(weak) != 1 || m.Colour(bytes) != 0 {
			t.Error("30")
		}
		thing.Op(m, 30, obj(plain), []api.Val{num(1)})
	}
	m := made(t, small())
	m.Mark()
	for n := 20; n < 39; n++ {
		if n != 29 && n != 30 {
			for _, self := range []api.Val{num(4), obj(dead), obj(api.NameLost)} {
				thing.Op(m, n, self, []api.Val{obj(dead), obj(plain)}[:max(0, thing.Args(n))])
			}
		}
	}
	if m.Colour(plain) != 0 || m.Colour(p) != 0 {
		t.Error("what fails shades")
	}
}

// P18.2: 32.
func TestKind(t *testing.T) {
	m := made(t, small())
	gives(t, m, obj(1), 32, obj(plain), obj(class))
	gives(t, m, obj(1), 32, obj(plain), obj(super))
	gives(t, m, obj(2), 32, obj(plain), obj(plain))
	gives(t, m, obj(1), 32, num(5), obj(api.ClassInt))
	gives(t, m, obj(2), 32, num(5), obj(class))
	fails(t, m, 32, obj(plain), num(class))
}

// P18.2: 33.
func TestCopies(t *testing.T) {
	w := small()
	w.L[plain].Final = true
	m := made(t, w)
	for i, x := range []int{plain, weak, bytes, class, 0} {
		gives(t, m, obj(nothing+i), 33, obj(x))
		want := m.Thing(x)
		want.Hash, want.Final = 32+i, false
		if !reflect.DeepEqual(m.Thing(nothing+i), want) {
			t.Errorf("%v, not %v", m.Thing(nothing+i), want)
		}
	}
	fails(t, m, 33, num(5))
	m.Set(class, 3, num(3))
	gives(t, m, obj(nothing+5), 33, obj(plain))
	m.Set(class, 3, num(4))
	fails(t, m, 33, obj(plain))
	m.Set(class, 3, num(0))
	gives(t, m, obj(nothing+6), 33, obj(plain))
	for _, format := range []int{api.Weak, api.Bytes} {
		m.Set(class, 4, num(format))
		fails(t, m, 33, obj(plain))
	}
	m = turned(t, func(w *api.World) {
		w.L[api.ClassText].F[3] = num(7)
		w.L[bytes].B = strings.Repeat("x", 200)
	})
	gives(t, m, obj(nothing), 33, obj(bytes)) // a Bytes class has no bytes of its own
	if m.Thing(nothing).B != strings.Repeat("x", 200) {
		t.Error("bytes")
	}
}

// P18.2: 34 to 38.
func TestPoints(t *testing.T) {
	m := made(t, small())
	for i, want := range [][2]int{{6, 8}, {-2, -2}, {-7, 22}, {23, 2}} {
		gives(t, m, obj(nothing+i), 34+i, obj(p), obj(q))
		x := api.Thing{Class: api.ClassPoint, Fmt: api.Plain, Hash: 32 + i, F: []api.Val{num(want[0]), num(want[1])}}
		if !reflect.DeepEqual(m.Thing(nothing+i), x) {
			t.Errorf("%d: %v", 34+i, m.Thing(nothing+i))
		}
	}
	gives(t, m, num(13), 38, obj(p))
	gives(t, m, num(4*4+5*5), 38, obj(q))
	for n := 34; n < 38; n++ {
		for _, v := range []api.Val{num(3), obj(plain), obj(weak), obj(bytes), none} {
			fails(t, m, n, obj(p), v)
			fails(t, m, n, v, obj(p))
		}
	}
	for _, v := range []api.Val{num(3), obj(plain), obj(weak), obj(bytes), none} {
		fails(t, m, 38, v)
	}
	for what, turn := range map[string]func(w *api.World){
		"class":  func(w *api.World) { w.L[p].Class = class },
		"weak":   func(w *api.World) { w.L[p].Fmt = api.Weak },
		"longer": func(w *api.World) { w.L[p].F = append(w.L[p].F, num(1)) },
		"short":  func(w *api.World) { w.L[p].F = w.L[p].F[:1] },
		"x":      func(w *api.World) { w.L[p].F[0] = none },
		"y":      func(w *api.World) { w.L[p].F[1] = obj(1) },
		"far":    func(w *api.World) { w.L[p].F[1] = num(1<<20 + 1) },
	} {
		t.Log(what)
		m := turned(t, turn)
		for n := 34; n < 38; n++ {
			fails(t, m, n, obj(p), obj(q))
			fails(t, m, n, obj(q), obj(p))
		}
		fails(t, m, 38, obj(p))
	}
	for _, x := range [][2]int{{3, 1}, {3, 3}, {4, api.Weak}, {4, api.Bytes}} {
		m := turned(t, func(w *api.World) { w.L[api.ClassPoint].F[x[0]] = num(x[1]) })
		fails(t, m, 34, obj(p), obj(q))
		gives(t, m, num(13), 38, obj(p))
	}
	m = turned(t, func(w *api.World) { w.L[p].F[0] = num(1 << 20) })
	fails(t, m, 34, obj(p), obj(q))
	gives(t, m, obj(nothing), 35, obj(p), obj(q))
	fails(t, m, 38, obj(p)) // a norm that does not fit
	m = turned(t, func(w *api.World) { w.L[p].F[0], w.L[p].F[1] = num(23170), num(148) })
	gives(t, m, num(23170*23170+148*148), 38, obj(p))
	m = turned(t, func(w *api.World) { w.L[p].F[0], w.L[p].F[1] = num(1<<14), num(1<<14) })
	fails(t, m, 38, obj(p)) // MaxInt itself
}

// P18.3: what fails turns nothing, whatever it is.
func TestFailsTurnNothing(t *testing.T) {
	r := rand.New(rand.NewSource(1))
	for range 60 {
		m := made(t, kit.Any(r.Intn, 5+r.Intn(25)))
		for range 100 {
			value := func() api.Val {
				if r.Intn(2) == 0 {
					return num(r.Intn(7) - 1)
				}
				return obj(r.Intn(m.Len()))
			}
			before := m.World()
			v, ok := thing.Op(m, 20+r.Intn(19), value(), []api.Val{value(), value()}[:r.Intn(3)])
			if !ok && (v != (api.Val{}) || !reflect.DeepEqual(m.World(), before)) {
				t.Fatal("something is turned")
			}
			if !image.Check(m.World()) || ok && !m.May(v) {
				t.Fatal("no image any more")
			}
		}
	}
}
