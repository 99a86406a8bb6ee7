package frame_test

import (
	"math"
	"math/rand"
	"reflect"
	"slices"
	"testing"

	"colloquy/api"
	"colloquy/code"
	"colloquy/frame"
	"colloquy/image"
	"colloquy/kit"
	"colloquy/object"
	"colloquy/start"
)

var obj, num, none = kit.Obj, kit.Num, kit.Obj(api.Nil)

var wild = []int{-1, 1000, math.MaxInt, math.MinInt}

func made(t *testing.T, w api.World) *object.Mem {
	t.Helper()
	if !image.Check(w) {
		t.Fatal("no image")
	}
	m, _ := object.New(w, 50)
	return m
}

// Places in the world that most tests begin with.
const (
	text   = 23 // the code: int 129, pop
	method = 24 // of 1 arg and 3 temps
	home   = 25 // a frame of it, with 3 on its stack
	block  = 26 // of 0 args and 2 temps, pc 1
	inner  = 27 // a frame of the block, with 2 on its stack
)

func small() api.World {
	w := start.World()
	kit.Method(&w, 1, 3, 0, code.Put([]code.Ins{{Op: code.Int, A: 129}, {Op: code.Pop}}), num(9))
	kit.Frame(&w, 0, method, num(7), num(1), num(2), obj(text))
	kit.Block(&w, home, 0, 2, 1)
	kit.Frame(&w, home, method, num(8), num(11), num(12))
	w.L[inner].F[frame.Block] = obj(block)
	return w
}

// with is the small world with one field of a thing turned.
func with(at, i int, v api.Val) api.World {
	w := small()
	w.L[at].F[i] = v
	return w
}

// P14.1: constants and what is what.
func TestWhat(t *testing.T) {
	if frame.Sender != 0 || frame.PC != 1 || frame.SP != 2 || frame.Method != 3 || frame.Self != 4 || frame.Block != 5 || frame.Slots != 6 || frame.Room != 16 {
		t.Error("constants")
	}
	m := made(t, small())
	for id := -1; id < 30; id++ {
		if frame.Is(m, id) != (id == home || id == inner) || frame.IsMethod(m, id) != (id == method) || frame.IsBlock(m, id) != (id == block) {
			t.Errorf("what %d is", id)
		}
	}
	for _, id := range wild {
		if frame.Is(m, id) || frame.IsMethod(m, id) || frame.IsBlock(m, id) {
			t.Errorf("what %d is", id)
		}
	}
}

// P14.1: methods.
func TestMethods(t *testing.T) {
	for _, x := range []struct {
		i  int
		v  api.Val
		ok bool
	}{
		{0, num(0), true}, {0, num(3), true}, {0, num(4), false}, {0, num(-1), false}, {0, none, false},
		{1, num(1), true}, {1, num(8), true}, {1, num(9), false}, {1, num(0), false}, {1, none, false},
		{2, num(200), true}, {2, num(201), false}, {2, num(-1), false}, {2, none, false},
		{3, obj(api.NameLost), true}, {3, num(1), false}, {3, obj(method), false}, {3, none, false},
	} {
		if frame.IsMethod(made(t, with(method, x.i, x.v)), method) != x.ok {
			t.Errorf("field %d is %v", x.i, x.v)
		}
	}
	w := small()
	w.L[method].F = w.L[method].F[:4]
	if !frame.IsMethod(made(t, w), method) {
		t.Error("of four fields")
	}
	w.L[method].F = w.L[method].F[:3]
	if frame.IsMethod(made(t, w), method) {
		t.Error("of three fields")
	}
	w = small()
	w.L[method].Fmt = api.Weak
	if m := made(t, w); frame.IsMethod(m, method) || frame.Is(m, home) {
		t.Error("Weak")
	}
}

// P14.1: blocks.
func TestBlocks(t *testing.T) {
	for _, x := range []struct {
		i  int
		v  api.Val
		ok bool
	}{
		{0, obj(inner), true}, {0, none, false}, {0, obj(method), false}, {0, num(home), false},
		{1, num(2), true}, {1, num(3), false}, {1, num(-1), false}, {1, none, false},
		{2, num(0), true}, {2, num(8), true}, {2, num(9), false}, {2, none, false},
		{3, num(-api.MaxInt), true}, {3, none, false},
	} {
		if frame.IsBlock(made(t, with(block, x.i, x.v)), block) != x.ok {
			t.Errorf("field %d is %v", x.i, x.v)
		}
	}
	w := small()
	w.L[block].F = w.L[block].F[:3]
	if frame.IsBlock(made(t, w), block) {
		t.Error("of three fields")
	}
	w = small()
	w.L[block].F = append(w.L[block].F, none)
	if !frame.IsBlock(made(t, w), block) {
		t.Error("of five fields")
	}
	w = small()
	w.L[block].Fmt = api.Weak
	if m := made(t, w); frame.IsBlock(m, block) || frame.Is(m, inner) {
		t.Error("Weak")
	}
	// a home need not be a frame, but must look like one
	w = with(home, frame.Method, none)
	if m := made(t, w); !frame.IsBlock(m, block) || frame.Is(m, home) || !frame.Is(m, inner) {
		t.Error("a home that is no frame")
	}
	w = small()
	w.L[home].Fmt = api.Weak
	if m := made(t, w); frame.IsBlock(m, block) || frame.Is(m, home) || frame.Is(m, inner) {
		t.Error("a Weak home")
	}
}

// P14.1: frames.
func TestFrames(t *testing.T) {
	for _, x := range []struct {
		i  int
		v  api.Val
		ok bool
	}{
		{frame.Sender, none, true}, {frame.Sender, obj(inner), true}, {frame.Sender, obj(method), false}, {frame.Sender, num(0), false},
		{frame.PC, num(-5), true}, {frame.PC, num(api.MaxInt - 1), true}, {frame.PC, none, false},
		{frame.SP, num(0), true}, {frame.SP, num(16), true}, {frame.SP, num(17), false}, {frame.SP, num(-1), false}, {frame.SP, none, false},
		{frame.Method, none, false}, {frame.Method, num(method), false}, {frame.Method, obj(block), false},
		{frame.Self, none, true}, {frame.Self, obj(3), true},
		{frame.Block, none, true}, {frame.Block, obj(method), false}, {frame.Block, num(0), false},
		{frame.Slots, obj(3), true}, {frame.Slots + 15, num(3), true},
	} {
		if frame.Is(made(t, with(inner, x.i, x.v)), inner) != x.ok {
			t.Errorf("field %d is %v", x.i, x.v)
		}
	}
	for _, n := range []int{21, 23} {
		w := small()
		w.L[inner].F = append(w.L[inner].F, none)[:n]
		if frame.Is(made(t, w), inner) {
			t.Errorf("of %d fields", n)
		}
	}
	w := small()
	w.L[inner].Fmt = api.Weak
	if frame.Is(made(t, w), inner) {
		t.Error("Weak")
	}
	w = small()
	w.L[0].F = slices.Clone(w.L[home].F)
	if frame.Is(made(t, w), 0) {
		t.Error("Nil")
	}
}

// P14.1: of what is no frame.
func TestNoFrame(t *testing.T) {
	m := made(t, small())
	want := m.World()
	for _, id := range append(wild, 0, text, method, block, 28) {
		if frame.Push(m, id, num(1)) || frame.SetTemp(m, id, 0, 0, num(1)) || frame.Go(m, id, 0) {
			t.Errorf("a frame %d", id)
		}
		v, ok := frame.Pop(m, id)
		v1, ok1 := frame.Top(m, id, 0)
		v2, ok2 := frame.Temp(m, id, 0, 0)
		i, ok3 := frame.Next(m, id)
		zero := api.Val{}
		if v != zero || v1 != zero || v2 != zero || ok || ok1 || ok2 || ok3 || i != (code.Ins{}) {
			t.Errorf("a frame %d", id)
		}
	}
	if !reflect.DeepEqual(m.World(), want) {
		t.Error("turned")
	}
}

// P14.2: a new frame.
func TestNew(t *testing.T) {
	m := made(t, small())
	id, ok := frame.New(m, inner, method, obj(3), block, -4, 3, []api.Val{num(5), obj(6)})
	want := []api.Val{obj(inner), num(-4), num(3), obj(method), obj(3), obj(block), num(5), obj(6)}
	for len(want) < 22 {
		want = append(want, none)
	}
	if id != 28 || !ok || !reflect.DeepEqual(m.Thing(id), api.Thing{Class: api.ClassFrame, Fmt: api.Plain, Hash: 29, F: want}) || !frame.Is(m, id) {
		t.Errorf("%d, %v: %v", id, ok, m.Thing(id))
	}
	if id, ok = frame.New(m, 0, 0, num(0), 0, 0, 0, nil); id != 29 || !ok || frame.Is(m, id) {
		t.Error("of things that are no method, no frame")
	}
	args := slices.Repeat([]api.Val{num(1)}, 8)
	if id, ok = frame.New(m, 0, method, num(0), 0, 0, 8, args); !ok || m.Get(id, frame.Slots+7) != num(1) {
		t.Error("of eight")
	}
}

// P14.2: what is refused makes nothing.
func TestNewRefused(t *testing.T) {
	m := made(t, small())
	want := m.World()
	ones := func(n int) []api.Val { return slices.Repeat([]api.Val{num(1)}, n) }
	for i, x := range []struct {
		sender, method int
		self           api.Val
		block, pc      int
		temps          int
		args           []api.Val
	}{
		{0, method, num(0), 0, 0, -1, nil},
		{0, method, num(0), 0, 0, 9, nil},
		{0, method, num(0), 0, 0, math.MinInt, nil},
		{0, method, num(0), 0, 0, 1, ones(2)},
		{0, method, num(0), 0, 0, 8, ones(9)},
		{-1, method, num(0), 0, 0, 0, nil},
		{1000, method, num(0), 0, 0, 0, nil},
		{0, -1, num(0), 0, 0, 0, nil},
		{0, 28, num(0), 0, 0, 0, nil},
		{0, method, obj(28), 0, 0, 0, nil},
		{0, method, num(api.MaxInt), 0, 0, 0, nil},
		{0, method, num(0), 28, 0, 0, nil},
		{0, method, num(0), math.MinInt, 0, 0, nil},
		{0, method, num(0), 0, api.MaxInt, 0, nil},
		{0, method, num(0), 0, -api.MaxInt - 1, 0, nil},
		{0, method, num(0), 0, 0, 2, []api.Val{num(1), obj(28)}},
		{0, method, num(0), 0, 0, 2, []api.Val{num(math.MinInt)}},
	} {
		if id, ok := frame.New(m, x.sender, x.method, x.self, x.block, x.pc, x.temps, x.args); id != 0 || ok {
			t.Errorf("%d: %d", i, id)
		}
	}
	if !reflect.DeepEqual(m.World(), want) {
		t.Error("a refused call has turned something")
	}
	for _, x := range []struct {
		i, v int
		ok   bool
	}{{3, 22, true}, {3, 0, true}, {3, 23, false}, {4, api.Weak, false}, {4, api.Bytes, false}} {
		m := made(t, with(api.ClassFrame, x.i, num(x.v)))
		id, ok := frame.New(m, 0, method, num(0), 0, 0, 0, nil)
		if ok != x.ok || ok && len(m.Thing(id).F) != 22 || !ok && (id != 0 || m.Len() != 28) {
			t.Errorf("ClassFrame's field %d is %d: %v", x.i, x.v, ok)
		}
	}
	w := small()
	w.Last = api.MaxObjects
	if id, ok := frame.New(made(t, w), 0, method, num(0), 0, 0, 0, nil); id != 0 || ok {
		t.Error("there is no room")
	}
}

// P14.3: the stack.
func TestStack(t *testing.T) {
	m := made(t, small())
	for _, v := range []api.Val{obj(28), obj(-1), num(api.MaxInt)} {
		if frame.Push(m, home, v) {
			t.Errorf("%v is pushed", v)
		}
	}
	if !frame.Push(m, home, obj(5)) || m.Get(home, frame.SP) != num(4) || m.Get(home, frame.Slots+3) != obj(5) {
		t.Error("Push")
	}
	for down, want := range []api.Val{obj(5), obj(text), num(2), num(1)} {
		if v, ok := frame.Top(m, home, down); v != want || !ok {
			t.Errorf("Top %d is %v, %v", down, v, ok)
		}
	}
	for _, down := range append(wild, 4, 5) {
		if v, ok := frame.Top(m, home, down); v != (api.Val{}) || ok {
			t.Errorf("Top %d is %v, %v", down, v, ok)
		}
	}
	for n, want := range []api.Val{obj(5), obj(text), num(2), num(1)} {
		if v, ok := frame.Pop(m, home); v != want || !ok || m.Get(home, frame.SP) != num(3-n) || m.Get(home, frame.Slots+3-n) != none {
			t.Errorf("Pop is %v, %v", v, ok)
		}
	}
	if v, ok := frame.Pop(m, home); v != (api.Val{}) || ok || m.Get(home, frame.SP) != num(0) {
		t.Error("Pop of none")
	}
	for i := range 16 {
		if !frame.Push(m, home, num(i)) {
			t.Fatalf("push %d", i)
		}
	}
	if frame.Push(m, home, num(16)) || m.Get(home, frame.SP) != num(16) || m.Get(home, frame.Slots+15) != num(15) {
		t.Error("push where there is no room")
	}
}

// P14.3: slots, of frames further out, too.
func TestTemps(t *testing.T) {
	m := made(t, small())
	for _, x := range []struct {
		out, n int
		want   api.Val
		ok     bool
	}{
		{0, 0, num(11), true}, {0, 1, num(12), true}, {0, 2, none, true}, {0, 15, none, true},
		{1, 0, num(1), true}, {1, 2, obj(text), true},
		{0, 16, api.Val{}, false}, {0, -1, api.Val{}, false}, {2, 0, api.Val{}, false}, {-1, 0, api.Val{}, false}, {9, 0, api.Val{}, false},
		{math.MaxInt, 0, api.Val{}, false}, {math.MinInt, 0, api.Val{}, false}, {0, math.MaxInt, api.Val{}, false}, {0, math.MinInt, api.Val{}, false},
	} {
		if v, ok := frame.Temp(m, inner, x.out, x.n); v != x.want || ok != x.ok {
			t.Errorf("Temp(%d, %d) is %v, %v", x.out, x.n, v, ok)
		}
		if frame.SetTemp(m, inner, x.out, x.n, num(70+x.out)) != x.ok {
			t.Errorf("SetTemp(%d, %d)", x.out, x.n)
		}
	}
	if m.Get(inner, frame.Slots) != num(70) || m.Get(inner, frame.Slots+15) != num(70) || m.Get(home, frame.Slots+2) != num(71) || m.Get(home, frame.Slots+3) != none {
		t.Error("SetTemp has set something else")
	}
	if frame.SetTemp(m, inner, 0, 0, obj(28)) || m.Get(inner, frame.Slots) != num(70) {
		t.Error("what may not be is set")
	}
	m.Set(home, frame.Method, none)
	if _, ok := frame.Temp(m, inner, 1, 0); ok {
		t.Error("of a home that is no frame")
	}
	w := small() // nor is there a way on from there
	b := kit.Block(&w, kit.Frame(&w, 0, method, none), 0, 0, 0)
	w.L[home].F[frame.Block] = obj(b)
	if _, ok := frame.Temp(made(t, w), inner, 2, 0); !ok {
		t.Error("two out")
	}
	w.L[home].F[frame.Method] = none
	if _, ok := frame.Temp(made(t, w), inner, 2, 0); ok {
		t.Error("of a home behind what is no frame")
	}
}

// P14.3: at most eight homes out.
func TestOutwards(t *testing.T) {
	w := small()
	at := inner
	for i := range 9 {
		b := kit.Block(&w, at, 0, 0, 0)
		at = kit.Frame(&w, 0, method, num(0), num(100+i))
		w.L[at].F[frame.Block] = obj(b)
	}
	m := made(t, w)
	for out := range 9 {
		if v, ok := frame.Temp(m, at, out, 0); !ok || v != num(108-out) {
			t.Errorf("%d out: %v, %v", out, v, ok)
		}
	}
	if _, ok := frame.Temp(m, at, 9, 0); ok {
		t.Error("nine out")
	}
	ring := small()
	ring.L[block].F[0] = obj(inner)
	m = made(t, ring)
	if v, ok := frame.Temp(m, inner, 8, 0); !ok || v != num(11) {
		t.Error("a ring")
	}
	null := small() // where Nil looks like a block it is none
	null.L[0].F = slices.Clone(null.L[block].F)
	m = made(t, null)
	if _, ok := frame.Temp(m, home, 1, 0); ok || !frame.IsBlock(m, 0) {
		t.Error("Nil as a block")
	}
}

// P14.3: what comes next.
func TestNextAndGo(t *testing.T) {
	m := made(t, small())
	for n, want := range []code.Ins{{Op: code.Int, A: 129}, {Op: code.Pop}} {
		if i, ok := frame.Next(m, home); i != want || !ok || m.Get(home, frame.PC) != num(n+1) {
			t.Errorf("Next is %v, %v", i, ok)
		}
	}
	if i, ok := frame.Next(m, home); i != (code.Ins{}) || ok || m.Get(home, frame.PC) != num(2) {
		t.Errorf("Next is %v, %v", i, ok)
	}
	for _, pc := range []int{-1, 61, math.MaxInt, math.MinInt} {
		if frame.Go(m, home, pc) || m.Get(home, frame.PC) != num(2) {
			t.Errorf("Go to %d", pc)
		}
	}
	for _, pc := range []int{60, 0, 1} {
		if !frame.Go(m, home, pc) || m.Get(home, frame.PC) != num(pc) {
			t.Errorf("Go to %d", pc)
		}
	}
	for _, pc := range []int{-1, -api.MaxInt, api.MaxInt - 1} {
		m.Set(home, frame.PC, num(pc))
		if _, ok := frame.Next(m, home); ok || m.Get(home, frame.PC) != num(pc) {
			t.Errorf("Next at %d", pc)
		}
	}
	w := small()
	w.L[text].B = string(make([]byte, 200)) // 66 instructions, and two bytes
	w.L[home].F[frame.PC] = num(65)
	m = made(t, w)
	if _, ok := frame.Next(m, home); !ok || m.Get(home, frame.PC) != num(66) {
		t.Error("the last one that may be")
	}
	if _, ok := frame.Next(m, home); ok {
		t.Error("two bytes are none")
	}
}

// P14.4: what is pushed is popped, while a collection marks, too.
func TestPushedIsPopped(t *testing.T) {
	r := rand.New(rand.NewSource(1))
	m := made(t, small())
	m.Mark()
	var model []api.Val
	for range 3 {
		frame.Pop(m, home)
	}
	for range 2000 {
		if r.Intn(2) == 0 {
			v := num(r.Intn(100))
			if r.Intn(2) == 0 {
				v = obj(r.Intn(m.Len()))
			}
			if frame.Push(m, home, v) != (len(model) < 16) {
				t.Fatal("Push")
			}
			if len(model) < 16 {
				model = append(model, v)
			}
			if v.Obj && len(model) < 16 && m.Colour(v.N) == 0 {
				t.Fatal("what is pushed is not shaded")
			}
		} else {
			v, ok := frame.Pop(m, home)
			if ok != (len(model) > 0) || ok && v != model[len(model)-1] {
				t.Fatal("Pop")
			}
			if ok {
				model = model[:len(model)-1]
			}
		}
	}
}
