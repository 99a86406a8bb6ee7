package simple_test

import (
	"math"
	"reflect"
	"slices"
	"testing"

	"colloquy/api"
	"colloquy/code"
	"colloquy/frame"
	"colloquy/image"
	"colloquy/kit"
	"colloquy/object"
	"colloquy/simple"
	"colloquy/start"
)

var obj, num, none = kit.Obj, kit.Num, kit.Obj(api.Nil)

// Places in the world that most tests begin with.
const (
	text   = 23
	method = 24 // with the values 9 and a thing
	self   = 25 // a thing of three fields
	home   = 26 // a frame with 1, 2, 3 on its stack
	block  = 27
	inner  = 28 // a frame of the block, with 11, 12 on its stack
)

func small() api.World {
	w := start.World()
	kit.Method(&w, 0, 0, 0, "", num(9), obj(api.True))
	kit.Plain(&w, api.ClassArray, num(70), obj(5), num(72))
	kit.Frame(&w, 0, method, obj(self), num(1), num(2), num(3))
	kit.Block(&w, home, 0, 0, 1)
	kit.Frame(&w, 0, method, obj(self), num(11), num(12))
	w.L[inner].F[frame.Block] = obj(block)
	w.L[inner].F[frame.PC] = num(20)
	return w
}

func made(t *testing.T, w api.World) *object.Mem {
	t.Helper()
	if !image.Check(w) {
		t.Fatal("no image")
	}
	m, _ := object.New(w, 50)
	return m
}

// stack is what lies on a frame's stack.
func stack(m *object.Mem, id int) []api.Val {
	var l []api.Val
	for i := range m.Get(id, frame.SP).N {
		l = append(l, m.Get(id, frame.Slots+i))
	}
	return l
}

func ins(name string, a, b int) code.Ins { return code.Ins{Op: code.Op(name), A: a, B: b} }

// P15.1: which ones they are.
func TestDoes(t *testing.T) {
	want := []int{1, 2, 3, 4, 5, 6, 7, 8, 9, 10, 13, 18, 19, 20, 21, 22}
	for _, op := range []int{-1, 0, 11, 12, 14, 15, 16, 17, 23, 256 + 1, math.MaxInt, math.MinInt} {
		if simple.Does(op) {
			t.Errorf("Does(%d)", op)
		}
		m := made(t, small())
		before := m.World()
		if simple.Do(m, home, code.Ins{Op: op}) || !reflect.DeepEqual(m.World(), before) {
			t.Errorf("Do of %d", op)
		}
	}
	for _, op := range want {
		if !simple.Does(op) {
			t.Errorf("Does(%d) not", op)
		}
	}
}

// P15.1: no frame.
func TestNoFrame(t *testing.T) {
	m := made(t, small())
	before := m.World()
	for op := range 24 {
		for _, id := range []int{0, self, block, -1, 100, math.MaxInt, math.MinInt} {
			if simple.Do(m, id, code.Ins{Op: op}) {
				t.Errorf("Do of %d in %d", op, id)
			}
		}
	}
	if !reflect.DeepEqual(m.World(), before) {
		t.Error("turned")
	}
}

// P15.1, P15.2: what is pushed.
func TestPushes(t *testing.T) {
	for _, x := range []struct {
		i    code.Ins
		want api.Val
	}{
		{ins("self", 0, 0), obj(self)},
		{ins("temp", 0, 0), num(11)}, {ins("temp", 1, 9), num(12)}, {ins("temp", 15, 0), none},
		{ins("outer", 0, 1), num(12)}, {ins("outer", 1, 2), num(3)},
		{ins("lit", 0, 0), num(9)}, {ins("lit", 1, 0), obj(1)}, {ins("lit", -1, 0), obj(text)},
		{ins("field", 0, 0), num(70)}, {ins("field", 1, 7), obj(5)}, {ins("field", 2, 0), num(72)},
		{ins("dup", 3, 3), num(12)},
		{ins("int", 129, 0), num(1)}, {ins("int", 0, 0), num(-128)}, {ins("int", 255, 0), num(127)},
		{ins("const", 0, 0), obj(0)}, {ins("const", 1, 0), obj(1)}, {ins("const", 2, 0), obj(2)},
		{ins("frame", 0, 0), obj(inner)},
	} {
		m := made(t, small())
		if !simple.Do(m, inner, x.i) || !slices.Equal(stack(m, inner), []api.Val{num(11), num(12), x.want}) {
			t.Errorf("%v: %v", x.i, stack(m, inner))
		}
		if !slices.Equal(stack(m, home), []api.Val{num(1), num(2), num(3)}) || m.Get(inner, frame.PC) != num(20) {
			t.Errorf("%v has turned something else", x.i)
		}
		w := small()
		w.L[inner].F[frame.SP] = num(16)
		m = made(t, w)
		if simple.Do(m, inner, x.i) {
			t.Errorf("%v where there is no room", x.i)
		}
	}
}

// P15.1: what can't be pushed.
func TestCannot(t *testing.T) {
	for _, i := range []code.Ins{
		ins("temp", 16, 0), ins("temp", -1, 0), ins("temp", math.MinInt, 0),
		ins("outer", 2, 0), ins("outer", 0, 16), ins("outer", 9, 0), ins("outer", -1, 0), ins("outer", math.MaxInt, math.MaxInt),
		ins("lit", 2, 0), ins("lit", -5, 0), ins("lit", math.MaxInt, 0), ins("lit", math.MinInt, 0),
		ins("field", 3, 0), ins("field", -1, 0), ins("field", math.MaxInt, 0),
		ins("int", math.MinInt, 0), ins("int", math.MaxInt, 0), ins("int", api.MaxInt+128, 0),
		ins("const", 3, 0), ins("const", -1, 0), ins("const", math.MaxInt, 0),
		ins("jump", 0, 61), ins("jump", 0, -1), ins("jump", 1, 0), ins("jump", math.MaxInt, math.MaxInt), ins("jump", 1<<56, 5), ins("jump", math.MinInt, 5),
		ins("block", 1, 0), ins("block", -1, 0), ins("block", 0, 9), ins("block", 9, 9), ins("block", math.MinInt, math.MaxInt),
		ins("array", 17, 0), ins("array", -1, 0), ins("array", math.MaxInt, 0), ins("array", math.MinInt, 0),
	} {
		m := made(t, small())
		before := m.World()
		if simple.Do(m, inner, i) {
			t.Errorf("%v is done", i)
		}
		if !reflect.DeepEqual(m.World(), before) {
			t.Errorf("%v has turned something", i)
		}
	}
	for _, v := range []api.Val{num(3), obj(text), none} {
		w := small()
		w.L[inner].F[frame.Self] = v
		if simple.Do(made(t, w), inner, ins("field", 0, 0)) {
			t.Errorf("a field of %v", v)
		}
	}
	w := small()
	w.L[inner].F[frame.SP] = num(0)
	for _, i := range []code.Ins{ins("dup", 0, 0), ins("pop", 0, 0), ins("set", 0, 0), ins("setfield", 0, 0), ins("setouter", 0, 0)} {
		m := made(t, w)
		before := m.World()
		if simple.Do(m, inner, i) || !reflect.DeepEqual(m.World(), before) {
			t.Errorf("%v where there is nothing", i)
		}
	}
}

// P15.1: what is popped, and where it goes.
func TestPops(t *testing.T) {
	for _, x := range []struct {
		i      code.Ins
		at, is int
	}{
		{ins("pop", 5, 5), 0, 0},
		{ins("set", 0, 0), inner, frame.Slots}, {ins("set", 5, 0), inner, frame.Slots + 5}, {ins("set", 15, 1), inner, frame.Slots + 15},
		{ins("setouter", 0, 6), inner, frame.Slots + 6}, {ins("setouter", 1, 0), home, frame.Slots}, {ins("setouter", 1, 15), home, frame.Slots + 15},
		{ins("setfield", 0, 0), self, 0}, {ins("setfield", 2, 8), self, 2},
	} {
		m := made(t, small())
		if !simple.Do(m, inner, x.i) || m.Get(inner, frame.SP) != num(1) {
			t.Errorf("%v: %v", x.i, stack(m, inner))
		}
		if x.at != 0 && m.Get(x.at, x.is) != num(12) {
			t.Errorf("%v: %v", x.i, m.Thing(x.at))
		}
	}
	// what can't be set is popped all the same
	for _, i := range []code.Ins{ins("set", 16, 0), ins("set", -1, 0), ins("setouter", 2, 0), ins("setouter", 0, 16), ins("setfield", 3, 0), ins("setfield", -1, 0)} {
		m := made(t, small())
		if simple.Do(m, inner, i) || !slices.Equal(stack(m, inner), []api.Val{num(11)}) {
			t.Errorf("%v: %v", i, stack(m, inner))
		}
	}
	for _, v := range []api.Val{num(30), obj(text), obj(api.SemaDue), obj(api.ClassInt)} {
		w := small()
		w.L[inner].F[frame.Self] = v
		m := made(t, w)
		if simple.Do(m, inner, ins("setfield", 0, 0)) || m.Get(api.SemaDue, 0) != num(0) || m.Get(inner, frame.SP) != num(1) {
			t.Errorf("setfield of %v", v)
		}
	}
	first := start.World() // the lowest place that may be set is Specials
	kit.Plain(&first, api.ClassArray, num(1))
	method := kit.Method(&first, 0, 0, 0, "")
	f := kit.Frame(&first, 0, method, obj(api.Specials), num(5))
	if m := made(t, first); !simple.Do(m, f, ins("setfield", 0, 0)) || m.Get(api.Specials, 0) != num(5) {
		t.Error("setfield of the first thing behind the first ones")
	}
	w := small()
	class := kit.Class(&w, 0, 0, 0, api.Plain)
	w.L[inner].F[frame.Self] = obj(class)
	m := made(t, w)
	if simple.Do(m, inner, ins("setfield", 4, 0)) || !simple.Do(m, inner, ins("setfield", 3, 0)) || m.Get(class, 3) != num(11) {
		t.Error("setfield of a class")
	}
}

// P15.1: jumps.
func TestJump(t *testing.T) {
	for _, x := range [][3]int{{0, 0, 0}, {0, 60, 60}, {0, 5, 5}, {-1, 256 + 7, 7}, {1, -256, 0}, {1 << 40, -1 << 48, 0}, {1 << 55, math.MinInt + 3, 3}, {-1 << 54, 1<<62 + 60, 60}} {
		m := made(t, small())
		if !simple.Do(m, inner, ins("jump", x[0], x[1])) || m.Get(inner, frame.PC) != num(x[2]) {
			t.Errorf("jump %v: %v", x, m.Get(inner, frame.PC))
		}
	}
}

// P15.1: blocks.
func TestBlock(t *testing.T) {
	m := made(t, small())
	if !simple.Do(m, inner, ins("block", 2, 8)) {
		t.Fatal("block")
	}
	want := api.Thing{Class: api.ClassBlock, Fmt: api.Plain, Hash: 30, F: []api.Val{obj(inner), num(2), num(8), num(21)}}
	if !reflect.DeepEqual(m.Thing(29), want) || !slices.Equal(stack(m, inner), []api.Val{num(11), num(12), obj(29)}) || !frame.IsBlock(m, 29) {
		t.Errorf("%v", m.Thing(29))
	}
	w := small()
	w.L[inner].F[frame.PC] = num(api.MaxInt - 1)
	m = made(t, w)
	if !simple.Do(m, inner, ins("block", 0, 0)) || m.Get(29, 3) != none {
		t.Error("a pc that does not fit")
	}
	for _, x := range []struct {
		i, v int
		ok   bool
	}{{3, 0, true}, {3, 4, true}, {3, 5, false}, {4, api.Weak, false}, {4, api.Bytes, false}} {
		w := small()
		w.L[api.ClassBlock].F[x.i] = num(x.v)
		m := made(t, w)
		if simple.Do(m, inner, ins("block", 0, 0)) != x.ok || x.ok != (m.Len() == 30) || x.ok && m.Thing(29).F[3] != num(21) {
			t.Errorf("ClassBlock's field %d is %d", x.i, x.v)
		}
	}
	w = small()
	w.L[inner].F[frame.SP] = num(16)
	m = made(t, w)
	if simple.Do(m, inner, ins("block", 0, 0)) || m.Len() != 30 {
		t.Error("what was made stays, where it is not pushed")
	}
	w = small()
	w.Last = api.MaxObjects
	if simple.Do(made(t, w), inner, ins("block", 0, 0)) {
		t.Error("no room")
	}
}

// P15.1: arrays.
func TestArray(t *testing.T) {
	m := made(t, small())
	if !simple.Do(m, home, ins("array", 2, 0)) {
		t.Fatal("array")
	}
	want := api.Thing{Class: api.ClassArray, Fmt: api.Plain, Hash: 30, F: []api.Val{num(2), num(3)}}
	if !reflect.DeepEqual(m.Thing(29), want) || !slices.Equal(stack(m, home), []api.Val{num(1), obj(29)}) {
		t.Errorf("%v, %v", m.Thing(29), stack(m, home))
	}
	if !simple.Do(m, home, ins("array", 0, 9)) || len(m.Thing(30).F) != 0 || !slices.Equal(stack(m, home), []api.Val{num(1), obj(29), obj(30)}) {
		t.Errorf("%v, %v", m.Thing(30), stack(m, home))
	}
	// more than there are: it is made, and what there is is popped
	if simple.Do(m, home, ins("array", 4, 0)) || m.Len() != 32 || m.Get(home, frame.SP) != num(0) {
		t.Error("more than there are")
	}
	w := small()
	w.L[api.ClassArray].F[3] = num(2)
	m = made(t, w)
	if !simple.Do(m, home, ins("array", 2, 0)) || !slices.Equal(m.Thing(29).F, []api.Val{none, none, num(2), num(3)}) {
		t.Errorf("%v", m.Thing(29))
	}
	w.L[api.ClassArray].F[4] = num(api.Bytes)
	w.L[self].Class = api.ClassPoint
	m = made(t, w)
	if simple.Do(m, home, ins("array", 2, 0)) || m.Len() != 30 || m.Get(home, frame.SP) != num(2) {
		t.Error("of Bytes")
	}
	if !simple.Do(m, home, ins("array", 0, 0)) || m.Get(home, frame.SP) != num(3) {
		t.Error("of Bytes, of none")
	}
	w = small()
	w.L[home].F[frame.SP] = num(16)
	for i := range 16 {
		w.L[home].F[frame.Slots+i] = num(i)
	}
	m = made(t, w)
	if !simple.Do(m, home, ins("array", 16, 0)) || m.Thing(29).F[15] != num(15) || m.Thing(29).F[0] != num(0) {
		t.Error("of sixteen")
	}
	w.Last = api.MaxObjects
	m = made(t, w)
	if simple.Do(m, home, ins("array", 1, 0)) || m.Get(home, frame.SP) != num(16) {
		t.Error("no room")
	}
}
