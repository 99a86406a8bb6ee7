package send_test

import (
	"math"
	"reflect"
	"slices"
	"testing"

	"colloquy/api"
	"colloquy/frame"
	"colloquy/image"
	"colloquy/kit"
	"colloquy/object"
	"colloquy/send"
	"colloquy/start"
)

var obj, num, none = kit.Obj, kit.Num, kit.Obj(api.Nil)

// Places in the world that most tests begin with.
const (
	name    = 23
	two     = 25 // a method of 2 args, 3 temps
	zero    = 27 // a method of 0 args, 1 temp
	lost    = 29 // a method of 1 arg
	dict    = 30 // name: two; lost: lost; back: lost
	class   = 31
	self    = 32
	bottom  = 33 // a frame
	home    = 34 // a frame whose sender is bottom
	block   = 35 // of 2 args, 4 temps, pc 7, at home
	inner   = 36 // a frame of the block, with 1, self, 5, 6 on its stack
	nothing = 37 // the next place
)

func small() api.World {
	w := start.World()
	kit.Bytes(&w, api.ClassName, "name")
	kit.Method(&w, 2, 3, 0, "")
	kit.Method(&w, 0, 1, 0, "")
	kit.Method(&w, 1, 1, 0, "")
	kit.Plain(&w, api.ClassArray, obj(name), obj(two), obj(api.NameLost), obj(lost), obj(api.NameBack), obj(lost))
	kit.Class(&w, 0, dict, 0, api.Plain)
	kit.Plain(&w, class)
	kit.Frame(&w, 0, zero, num(4))
	kit.Frame(&w, bottom, zero, obj(self), num(8))
	kit.Block(&w, home, 2, 4, 7)
	kit.Frame(&w, home, zero, obj(self), num(1), obj(self), num(5), num(6))
	w.L[inner].F[frame.Block] = obj(block)
	return w
}

func made(t *testing.T, w api.World) *object.Mem {
	t.Helper()
	if !image.Check(w) {
		t.Fatal("no image")
	}
	m, _ := object.New(w, 50)
	return m
}

// turned is the small world, turned.
func turned(t *testing.T, turn func(w *api.World)) *object.Mem {
	w := small()
	turn(&w)
	return made(t, w)
}

func stack(m *object.Mem, id int) []api.Val {
	var l []api.Val
	for i := range m.Get(id, frame.SP).N {
		l = append(l, m.Get(id, frame.Slots+i))
	}
	return l
}

func is(m *object.Mem, id int, l ...api.Val) bool { return slices.Equal(stack(m, id), l) }

// newFrame tells whether a frame is as a new one with these fields.
func newFrame(m *object.Mem, id int, l ...api.Val) bool {
	for len(l) < 22 {
		l = append(l, none)
	}
	return slices.Equal(m.Thing(id).F, l) && m.Thing(id).Class == api.ClassFrame
}

// the calls that want a receiver and arguments.
func calls(m *object.Mem, id, n int) [][2]int {
	var l [][2]int
	for _, f := range []func() (int, int){
		func() (int, int) { return send.Enter(m, id, two, n) },
		func() (int, int) { return send.Call(m, id, n) },
		func() (int, int) { return send.Lost(m, id, name, n) },
		func() (int, int) { return send.Send(m, id, name, n, class) },
	} {
		to, how := f()
		l = append(l, [2]int{to, how})
	}
	return l
}

// What all calls refuse.
func TestBroken(t *testing.T) {
	if send.Goes != 0 || send.Done != 1 || send.Broken != 2 || send.Full != 3 {
		t.Error("constants")
	}
	m := made(t, small())
	before := m.World()
	refused := func(id, n int) {
		t.Helper()
		for i, x := range calls(m, id, n) {
			if x != [2]int{0, send.Broken} {
				t.Errorf("call %d of %d, %d: %v", i, id, n, x)
			}
		}
	}
	for _, id := range []int{0, self, block, nothing, -1, math.MaxInt, math.MinInt} {
		refused(id, 0)
		for i, f := range []func(m *object.Mem, id int, v api.Val) (int, int){send.Return, send.Up} {
			if to, how := f(m, id, num(1)); to != 0 || how != send.Broken {
				t.Errorf("way back %d of %d: %d, %d", i, id, to, how)
			}
		}
	}
	for _, n := range []int{-1, 4, 5, 9, math.MaxInt, math.MinInt} {
		refused(inner, n)
	}
	if !reflect.DeepEqual(m.World(), before) {
		t.Error("turned")
	}
	m = turned(t, func(w *api.World) { w.L[inner].F[frame.SP] = num(16) })
	before = m.World()
	for i, x := range calls(m, inner, 9) {
		if x != [2]int{0, send.Broken} {
			t.Errorf("call %d of nine: %v", i, x)
		}
	}
	if !reflect.DeepEqual(m.World(), before) {
		t.Error("turned")
	}
}

// P16.1: methods.
func TestEnter(t *testing.T) {
	m := made(t, small())
	if to, how := send.Enter(m, inner, two, 2); to != nothing || how != send.Goes {
		t.Fatalf("%d, %d", to, how)
	}
	if !newFrame(m, nothing, obj(inner), num(0), num(3), obj(two), obj(self), none, num(5), num(6)) {
		t.Errorf("%v", m.Thing(nothing))
	}
	if !is(m, inner, num(1)) || m.Get(inner, frame.Slots+1) != none || m.Get(inner, frame.Slots+3) != none {
		t.Errorf("stack %v", stack(m, inner))
	}
	m = made(t, small())
	before := m.World()
	for _, x := range [][2]int{{two, 1}, {two, 3}, {zero, 1}, {lost, 2}, {self, 2}, {block, 2}, {0, 0}, {-1, 2}, {nothing, 2}} {
		if to, how := send.Enter(m, inner, x[0], x[1]); to != 0 || how != send.Broken {
			t.Errorf("Enter of %v: %d, %d", x, to, how)
		}
	}
	if !reflect.DeepEqual(m.World(), before) {
		t.Error("turned")
	}
	if to, how := send.Enter(m, inner, zero, 0); to != nothing || how != send.Goes || !is(m, inner, num(1), obj(self), num(5)) || !newFrame(m, nothing, obj(inner), num(0), num(1), obj(zero), num(6), none) {
		t.Error("of no args")
	}
	m = turned(t, func(w *api.World) { w.Last = api.MaxObjects })
	if to, how := send.Enter(m, inner, two, 2); to != 0 || how != send.Full || len(stack(m, inner)) != 4 {
		t.Errorf("Full: %d, %d", to, how)
	}
	m = turned(t, func(w *api.World) { w.L[api.ClassFrame].F[4] = num(api.Weak) })
	if to, how := send.Enter(m, inner, two, 2); to != 0 || how != send.Full || len(stack(m, inner)) != 4 {
		t.Errorf("Full: %d, %d", to, how)
	}
}

// As many arguments as there may be.
func TestEight(t *testing.T) {
	w := small()
	method := kit.Method(&w, 8, 8, 0, "")
	many := slices.Repeat([]api.Val{num(4)}, 9)
	f := kit.Frame(&w, 0, zero, num(1), many...)
	m := made(t, w)
	if to, how := send.Enter(m, f, method, 8); to != f+1 || how != send.Goes || !is(m, f) || !is(m, to, many[:8]...) {
		t.Errorf("%d, %d", to, how)
	}
}

// P16.1: blocks.
func TestCall(t *testing.T) {
	called := func(w *api.World) { w.L[inner].F[frame.Slots+1] = obj(block) }
	m := turned(t, called)
	if to, how := send.Call(m, inner, 2); to != nothing || how != send.Goes {
		t.Fatalf("%d, %d", to, how)
	}
	if !newFrame(m, nothing, obj(inner), num(7), num(4), obj(zero), obj(self), obj(block), num(5), num(6)) || !is(m, inner, num(1)) {
		t.Errorf("%v", m.Thing(nothing))
	}
	for i, turn := range []func(w *api.World){
		func(w *api.World) { w.L[block].F[1] = num(1) },
		func(w *api.World) { w.L[block].F[1] = num(3) },
		func(w *api.World) { w.L[block].F[3] = none },
		func(w *api.World) { w.L[home].F[frame.Method] = none },
		func(w *api.World) { w.L[inner].F[frame.Slots+1] = obj(home) },
		func(w *api.World) { w.L[inner].F[frame.Slots+1] = num(block) },
	} {
		m := turned(t, func(w *api.World) { called(w); turn(w) })
		before := m.World()
		if to, how := send.Call(m, inner, 2); to != 0 || how != send.Broken || !reflect.DeepEqual(m.World(), before) {
			t.Errorf("%d: %d, %d", i, to, how)
		}
	}
	m = turned(t, func(w *api.World) { called(w); w.Last = api.MaxObjects })
	if to, how := send.Call(m, inner, 2); to != 0 || how != send.Full || len(stack(m, inner)) != 4 {
		t.Errorf("Full: %d, %d", to, how)
	}
}

// P16.2: what is found is entered.
func TestSend(t *testing.T) {
	m := made(t, small())
	if to, how := send.Send(m, inner, name, 2, class); to != nothing || how != send.Goes || m.Get(nothing, frame.Method) != obj(two) || !is(m, inner, num(1)) {
		t.Errorf("%d, %d", to, how)
	}
	m = made(t, small())
	if to, how := send.Send(m, inner, name, 1, class); to != 0 || how != send.Broken || m.Len() != nothing {
		t.Errorf("another number of args: %d, %d", to, how)
	}
	m = turned(t, func(w *api.World) { w.L[dict].F[1] = obj(self) })
	if to, how := send.Send(m, inner, name, 2, class); to != 0 || how != send.Broken || m.Len() != nothing {
		t.Errorf("what is found is no method: %d, %d", to, how)
	}
	// the class is the one that is told, not the receiver's
	m = made(t, small())
	if to, how := send.Send(m, inner, name, 2, api.ClassArray); to != nothing+2 || how != send.Goes || m.Get(to, frame.Method) != obj(lost) {
		t.Errorf("another class: %d, %d", to, how)
	}
}

// P16.2: what is not understood.
func TestLost(t *testing.T) {
	for i, f := range []func(m *object.Mem) (int, int){
		func(m *object.Mem) (int, int) { return send.Lost(m, inner, api.NameBool, 2) },
		func(m *object.Mem) (int, int) { return send.Send(m, inner, api.NameBool, 2, class) },
		func(m *object.Mem) (int, int) { return send.Send(m, inner, api.NameBool, 2, -1) },
	} {
		m := made(t, small())
		to, how := f(m)
		if to != nothing+2 || how != send.Goes {
			t.Fatalf("%d: %d, %d", i, to, how)
		}
		if want := (api.Thing{Class: api.ClassArray, Fmt: api.Plain, Hash: 38, F: []api.Val{num(5), num(6)}}); !reflect.DeepEqual(m.Thing(nothing), want) {
			t.Errorf("array %v", m.Thing(nothing))
		}
		if want := (api.Thing{Class: api.ClassMess, Fmt: api.Plain, Hash: 39, F: []api.Val{obj(api.NameBool), obj(nothing)}}); !reflect.DeepEqual(m.Thing(nothing+1), want) {
			t.Errorf("message %v", m.Thing(nothing+1))
		}
		if !newFrame(m, to, obj(inner), num(0), num(1), obj(lost), obj(self), none, obj(nothing+1)) || !is(m, inner, num(1)) {
			t.Errorf("frame %v", m.Thing(to))
		}
	}
}

// P16.2: the name that a message has.
func TestLostName(t *testing.T) {
	for _, x := range [][2]int{{self, self}, {nothing, nothing}, {nothing + 1, nothing + 1}, {nothing + 2, 0}, {-1, 0}, {math.MaxInt, 0}} {
		m := made(t, small())
		send.Lost(m, inner, x[0], 2)
		if got := m.Get(nothing+1, 0); got != obj(x[1]) {
			t.Errorf("name %d is %v", x[0], got)
		}
	}
}

// P16.2: what is lost where something is wanting.
func TestLostBroken(t *testing.T) {
	for what, x := range map[string]struct {
		turn        func(w *api.World)
		n, how, len int
		stack       []api.Val
	}{
		"no lost":      {func(w *api.World) { w.L[dict].F[2] = none }, 2, send.Broken, 2, []api.Val{num(1), obj(self), obj(nothing + 1)}},
		"lost's args":  {func(w *api.World) { w.L[lost].F[0] = num(0) }, 2, send.Broken, 2, []api.Val{num(1), obj(self), obj(nothing + 1)}},
		"full":         {func(w *api.World) { w.Last = api.MaxObjects }, 2, send.Full, 0, []api.Val{num(1), obj(self), num(5), num(6)}},
		"full mess":    {func(w *api.World) { w.Last = api.MaxObjects - 1 }, 2, send.Full, 1, []api.Val{num(1), obj(self), num(5), num(6)}},
		"full frame":   {func(w *api.World) { w.Last = api.MaxObjects - 2 }, 2, send.Full, 2, []api.Val{num(1), obj(self), obj(nothing + 1)}},
		"array's size": {func(w *api.World) { w.L[api.ClassArray].F[3] = num(59) }, 2, send.Full, 0, []api.Val{num(1), obj(self), num(5), num(6)}},
		"mess small":   {func(w *api.World) { w.L[api.ClassMess].F[3] = num(1) }, 2, send.Broken, 2, []api.Val{num(1), obj(self), num(5), num(6)}},
		"mess bytes":   {func(w *api.World) { w.L[api.ClassMess].F[4] = num(api.Bytes) }, 2, send.Broken, 2, []api.Val{num(1), obj(self), num(5), num(6)}},
		"array bytes":  {func(w *api.World) { w.L[api.ClassArray].F[4] = num(api.Bytes); w.L[dict].Class = api.ClassPoint }, 2, send.Broken, 2, []api.Val{num(1), obj(self), num(5), num(6)}},
	} {
		m := turned(t, x.turn)
		if to, how := send.Lost(m, inner, name, x.n); to != 0 || how != x.how || m.Len() != nothing+x.len || !is(m, inner, x.stack...) {
			t.Errorf("%s: %d, %d, %d things, stack %v", what, to, how, m.Len(), stack(m, inner))
		}
	}
	m := turned(t, func(w *api.World) {
		w.L[inner].F[frame.SP] = num(16)
		w.L[inner].F[frame.Slots+15] = obj(self)
	})
	if to, how := send.Lost(m, inner, name, 0); to != 0 || how != send.Broken || m.Len() != nothing+2 {
		t.Errorf("no room on the stack: %d, %d", to, how)
	}
	m = turned(t, func(w *api.World) {
		w.L[api.ClassArray].F[4] = num(api.Bytes)
		w.L[inner].F[frame.Slots+3] = obj(self)
	})
	if to, how := send.Lost(m, inner, name, 0); to != nothing+2 || how != send.Goes {
		t.Errorf("bytes, of no args: %d, %d", to, how)
	}
	m = turned(t, func(w *api.World) { w.L[api.ClassArray].F[3], w.L[api.ClassMess].F[3] = num(2), num(3) })
	if to, how := send.Lost(m, inner, name, 2); to != nothing+2 || how != send.Goes || !slices.Equal(m.Thing(nothing).F, []api.Val{none, none, num(5), num(6)}) || !slices.Equal(m.Thing(nothing+1).F, []api.Val{obj(name), obj(nothing), none}) {
		t.Errorf("with fields of their own: %d, %d", to, how)
	}
}

// gone tells whether a frame has been left.
func gone(m *object.Mem, id int) bool {
	return m.Get(id, frame.Sender) == none && m.Get(id, frame.PC) == num(api.MaxCode) && m.Get(id, frame.SP) == num(0)
}

// P16.3: back to the sender.
func TestReturn(t *testing.T) {
	m := made(t, small())
	if to, how := send.Return(m, home, obj(self)); to != bottom || how != send.Goes || !gone(m, home) || !is(m, bottom, obj(self)) || m.Get(home, frame.Slots) != num(8) {
		t.Errorf("%d, %d", to, how)
	}
	if to, how := send.Return(m, bottom, num(3)); to != 0 || how != send.Done || !gone(m, bottom) {
		t.Errorf("where the sender is Nil: %d, %d", to, how)
	}
	if to, how := send.Return(m, home, num(3)); to != 0 || how != send.Done || !gone(m, home) {
		t.Errorf("once more: %d, %d", to, how)
	}
	m = turned(t, func(w *api.World) { w.L[bottom].F[frame.SP] = num(16) })
	if to, how := send.Return(m, home, num(3)); to != 0 || how != send.Broken || !gone(m, home) {
		t.Errorf("where there is no room: %d, %d", to, how)
	}
	m = turned(t, func(w *api.World) { w.L[bottom].F[frame.Method] = none })
	if to, how := send.Return(m, home, num(3)); to != 0 || how != send.Done || !gone(m, home) {
		t.Errorf("to what is no frame: %d, %d", to, how)
	}
	m = made(t, small())
	if to, how := send.Return(m, home, obj(nothing)); to != 0 || how != send.Broken || !gone(m, home) {
		t.Errorf("with no value: %d, %d", to, how)
	}
	m = turned(t, func(w *api.World) { w.L[home].F[frame.Sender] = obj(home) })
	if to, how := send.Return(m, home, num(3)); to != home || how != send.Goes || !is(m, home, num(3)) || m.Get(home, frame.Sender) != none {
		t.Errorf("to itself: %d, %d", to, how)
	}
}

// P16.3: back from the frame where a block began.
func TestUp(t *testing.T) {
	m := made(t, small())
	if to, how := send.Up(m, home, num(3)); to != bottom || how != send.Goes || !gone(m, home) || !is(m, bottom, num(3)) {
		t.Errorf("without a block: %d, %d", to, how)
	}
	m = made(t, small())
	if to, how := send.Up(m, bottom, num(3)); to != 0 || how != send.Done || !gone(m, bottom) {
		t.Errorf("without a block, without a sender: %d, %d", to, how)
	}
	m = made(t, small())
	if to, how := send.Up(m, inner, num(3)); to != bottom || how != send.Goes || !gone(m, home) || gone(m, inner) || !is(m, bottom, num(3)) || len(stack(m, inner)) != 4 {
		t.Errorf("from a block: %d, %d", to, how)
	}
	m = made(t, small())
	send.Return(m, home, num(0))
	if to, how := send.Up(m, inner, num(3)); to != nothing || how != send.Goes || !is(m, inner, num(1), obj(self), num(5), num(6)) || !newFrame(m, to, obj(inner), num(0), num(1), obj(lost), obj(self), none, num(3)) {
		t.Errorf("no way back: %d, %d", to, how)
	}
	for _, sp := range []int{15, 16} {
		m = turned(t, func(w *api.World) { w.L[home].F[frame.Sender] = none; w.L[inner].F[frame.SP] = num(sp) })
		if to, how := send.Up(m, inner, num(3)); to != 0 || how != send.Broken || m.Len() != nothing {
			t.Errorf("no way back, and no room: %d, %d", to, how)
		}
	}
	m = turned(t, func(w *api.World) { w.L[home].F[frame.Method] = none })
	before := m.World()
	if to, how := send.Up(m, inner, num(3)); to != 0 || how != send.Broken || !reflect.DeepEqual(m.World(), before) {
		t.Errorf("a home that is no frame: %d, %d", to, how)
	}
	m = turned(t, func(w *api.World) { w.L[home].F[frame.Sender] = none; w.L[dict].F[4] = none })
	if to, how := send.Up(m, inner, num(3)); to != nothing+2 || how != send.Goes || m.Get(nothing+1, 0) != obj(api.NameBack) {
		t.Errorf("back is not understood: %d, %d", to, how)
	}
}

// P16.3: at most nine frames are looked at.
func TestUpFar(t *testing.T) {
	for _, depth := range []int{8, 9} {
		w := small()
		at := home
		for range depth {
			b := kit.Block(&w, at, 0, 0, 0)
			at = kit.Frame(&w, 0, zero, num(0))
			w.L[at].F[frame.Block] = obj(b)
		}
		m := made(t, w)
		before := m.World()
		to, how := send.Up(m, at, num(3))
		if depth == 8 && (to != bottom || how != send.Goes || !is(m, bottom, num(3))) {
			t.Errorf("the ninth frame: %d, %d", to, how)
		}
		if depth == 9 && (to != 0 || how != send.Broken || !reflect.DeepEqual(m.World(), before)) {
			t.Errorf("the tenth frame: %d, %d", to, how)
		}
	}
}

// P16.4: one value more, in place of receiver and arguments.
func TestOneMore(t *testing.T) {
	m := made(t, small())
	to, _ := send.Send(m, inner, name, 2, class)
	back, how := send.Return(m, to, num(99))
	if back != inner || how != send.Goes || !is(m, inner, num(1), num(99)) {
		t.Errorf("%d, %d: %v", back, how, stack(m, inner))
	}
}
