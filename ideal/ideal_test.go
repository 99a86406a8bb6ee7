package ideal_test

import (
	"math"
	"reflect"
	"slices"
	"strings"
	"testing"

	"colloquy/api"
	"colloquy/cycle"
	"colloquy/frame"
	"colloquy/ideal"
	"colloquy/image"
	"colloquy/kit"
	"colloquy/object"
	"colloquy/reach"
	"colloquy/start"
)

var obj, num, none = kit.Obj, kit.Num, kit.Obj(api.Nil)

// rig is a world in which one process runs a main method; all classes are ahead of root, which understands name, and what is not understood.
type rig struct {
	api.World
	root, dict, name, method, lost int
	self, main, frame, proc        int
	next                           int // the next place
}

// newRig has a main method of some code; name is its first value, and understood by a method of some args and a primitive.
func newRig(code string, args, prim int, stack ...api.Val) *rig {
	r := &rig{World: start.World()}
	w := &r.World
	r.name = kit.Bytes(w, api.ClassName, "name")
	r.method = kit.Method(w, args, args, prim, kit.Code("int 227, ret"))
	r.lost = kit.Method(w, 1, 1, 0, kit.Code("int 228, ret"))
	r.dict = kit.Plain(w, api.ClassArray, obj(r.name), obj(r.method), obj(api.NameLost), obj(r.lost), obj(api.NameBool), obj(r.method))
	r.root = kit.Class(w, 0, r.dict, 0, api.Plain)
	for class := api.ClassNil; class <= api.ClassPoint; class++ {
		w.L[class].F[0] = obj(r.root)
	}
	r.self = kit.Plain(w, api.ClassArray, num(11), num(12))
	r.main = kit.Method(w, 0, 0, 0, kit.Code(code), obj(r.name))
	r.frame = kit.Frame(w, 0, r.main, obj(r.self), stack...)
	r.proc = kit.Proc(w, r.frame, 5)
	w.R.Proc, w.R.Frame = r.proc, r.frame
	r.next = len(w.L)
	return r
}

func made(t *testing.T, w api.World) *ideal.Machine {
	t.Helper()
	m, err := ideal.New(w, 50)
	if err != api.OK {
		t.Fatal("no image")
	}
	return m
}

func stack(m *object.Mem, id int) []api.Val {
	var l []api.Val
	for i := range m.Get(id, frame.SP).N {
		l = append(l, m.Get(id, frame.Slots+i))
	}
	return l
}

// stays tells that the machine is in the first frame, with this on its stack.
func (r *rig) stays(t *testing.T, what string, m *ideal.Machine, l ...api.Val) {
	t.Helper()
	if x := m.Mem().Regs(); x.How != api.Runs || x.Frame != r.frame || !slices.Equal(stack(m.Mem(), r.frame), l) {
		t.Errorf("%s: how %d, frame %d, stack %v, not %v", what, x.How, x.Frame, stack(m.Mem(), r.frame), l)
	}
}

// enters tells that the machine is in a new frame of a method.
func (r *rig) enters(t *testing.T, what string, m *ideal.Machine, method int, self api.Val, args ...api.Val) {
	t.Helper()
	x := m.Mem().Regs()
	if x.How != api.Runs || x.Frame < r.next || m.Mem().Get(x.Frame, frame.Method) != obj(method) || m.Mem().Get(x.Frame, frame.Self) != self || !slices.Equal(stack(m.Mem(), x.Frame)[:len(args)], args) {
		t.Errorf("%s: how %d, frame %d: %v", what, x.How, x.Frame, m.Mem().Thing(x.Frame))
	}
}

// ends tells how the machine has ended.
func ends(t *testing.T, what string, m *ideal.Machine, how int) {
	t.Helper()
	if got := m.Mem().Regs().How; got != how {
		t.Errorf("%s: how %d, not %d", what, got, how)
	}
	before := m.World()
	if m.Step() != how || m.Work(5) != 0 || m.Input("x") || !reflect.DeepEqual(m.World(), before) {
		t.Errorf("%s: something is done still", what)
	}
	if m.Tick(); !reflect.DeepEqual(m.World(), before) {
		t.Errorf("%s: a tick does something still", what)
	}
}

// P20.1: what a machine is of.
func TestNew(t *testing.T) {
	bad := start.World()
	bad.L[0].Class = 7
	if m, err := ideal.New(bad, 5); m != nil || err != api.ErrImage {
		t.Error("of what may not be")
	}
	r := newRig("", 0, 0)
	r.R.Out, r.R.In, r.R.Snaps = "o", "i", []string{"s"}
	m := made(t, r.World)
	if !reflect.DeepEqual(m.World(), image.Copy(r.World)) || m.Phase() != api.Idle || m.Mem() == nil {
		t.Error("the world")
	}
	for _, how := range []int{api.Ended, api.Rests, api.Broken, api.Full} {
		r.R.How = how
		ends(t, "from the beginning", made(t, r.World), how)
	}
}

// P20.1: units, and what is due.
func TestWork(t *testing.T) {
	r := newRig("", 0, 0)
	kit.Plain(&r.World, api.ClassArray)
	r.L[len(r.L)-1].Final = true
	lost := len(r.L) - 1
	r.R.Wait = []api.Wait{{Sema: api.SemaDue, Proc: kit.Proc(&r.World, r.frame, 3)}}
	m := made(t, r.World)
	mem, _ := object.New(r.World, 50)
	for _, n := range []int{0, -4, 1, 7, 500, api.MaxSteps + 5} {
		want, _ := cycle.Work(mem, n)
		if got := m.Work(n); got != want || m.Phase() != mem.Phase() {
			t.Errorf("Work(%d): %d, not %d", n, got, want)
		}
	}
	if x := m.Mem().Regs(); !slices.Equal(x.Due, []int{lost}) || !slices.Equal(x.Ready, []int{lost + 1}) || len(x.Wait) != 0 {
		t.Errorf("%v", x)
	}
	r.R.Wait = nil
	m = made(t, r.World)
	m.Work(500)
	if m.Mem().Get(api.SemaDue, 0) != num(1) {
		t.Error("SemaDue is not signalled, or not once")
	}
	m.Work(5)
	if m.Mem().Get(api.SemaDue, 0) != num(1) {
		t.Error("SemaDue is signalled where nothing became due")
	}
}

// P20.1: ticks and bytes to read.
func TestTickAndInput(t *testing.T) {
	r := newRig("", 0, 0)
	other := kit.Proc(&r.World, r.frame, 5)
	r.R.Ready = []int{other}
	m := made(t, r.World)
	m.Tick()
	if x := m.Mem().Regs(); x.Proc != other || !slices.Equal(x.Ready, []int{r.proc}) {
		t.Error("Tick")
	}
	if !m.Input("ab") || !m.Input("c") || !m.Input("") || m.World().R.In != "abc" {
		t.Error("Input")
	}
	if m.Input(strings.Repeat("x", api.MaxText-2)) || m.World().R.In != "abc" || !m.Input(strings.Repeat("x", api.MaxText-3)) || m.Input("x") || !m.Input("") {
		t.Error("more than there may be")
	}
}

// P20.2: a frame whose code is empty, and what is no frame.
func TestNothingToDo(t *testing.T) {
	r := newRig("", 0, 0)
	m := made(t, r.World)
	if m.Step() != api.Rests || m.Mem().Regs().Frame != 0 || m.Mem().Regs().Proc != 0 {
		t.Error("the machine does not rest")
	}
	ends(t, "empty", m, api.Rests)
	below := kit.Frame(&r.World, 0, r.main, num(1))
	r.L[r.frame].F[frame.Sender] = obj(below)
	m = made(t, r.World)
	if m.Step() != api.Runs || m.Mem().Regs().Frame != below || !slices.Equal(stack(m.Mem(), below), []api.Val{obj(r.self)}) {
		t.Error("its self is not returned")
	}
	for _, at := range []int{0, r.self, r.method} {
		r.R.Frame = at
		m = made(t, r.World)
		if m.Step() != api.Broken {
			t.Errorf("frame %d", at)
		}
		ends(t, "no frame", m, api.Broken)
	}
}

// P20.2: what sends nothing.
func TestSimple(t *testing.T) {
	r := newRig("int 131, dup, jump 0 4, pop, const 1", 0, 0)
	m := made(t, r.World)
	for _, want := range [][]api.Val{{num(3)}, {num(3), num(3)}, {num(3), num(3)}, {num(3), num(3), obj(1)}} {
		if m.Step() != api.Runs {
			t.Fatal("how")
		}
		r.stays(t, "simple", m, want...)
	}
	r = newRig("pop", 0, 0)
	m = made(t, r.World)
	if m.Step() != api.Broken {
		t.Error("what can't be done")
	}
	ends(t, "pop of none", m, api.Broken)
	r = newRig("block 0 0", 0, 0)
	r.Last = api.MaxObjects
	m = made(t, r.World)
	if m.Step() != api.Full {
		t.Error("no more may be made")
	}
	ends(t, "block", m, api.Full)
	r = newRig("pop", 0, 0)
	r.Last = api.MaxObjects
	if made(t, r.World).Step() != api.Full {
		t.Error("what can't be done where no more may be made")
	}
	for _, code := range []string{"\x00\x00\x00", "\x17\x00\x00", "\xff\x00\x00"} {
		r = newRig("", 0, 0, num(1))
		r.L[r.L[r.main].F[3].N].B = code
		r.Last = api.MaxObjects
		m = made(t, r.World)
		if m.Step() != api.Broken || !slices.Equal(stack(m.Mem(), r.frame), []api.Val{num(1)}) {
			t.Errorf("Op %x", code)
		}
	}
}

// P20.2: truths.
func TestBranches(t *testing.T) {
	for _, x := range []struct {
		code string
		v    api.Val
		goes bool
	}{
		{"iftrue 0 9", obj(1), true}, {"iftrue 0 9", obj(2), false}, {"iffalse 0 9", obj(1), false}, {"iffalse 0 9", obj(2), true},
		{"iftrue 255 9", obj(2), false}, {"iffalse 0 61", obj(1), false},
	} {
		r := newRig(x.code, 0, 0, num(7), x.v)
		m := made(t, r.World)
		m.Step()
		r.stays(t, x.code, m, num(7))
		want := num(1)
		if x.goes {
			want = num(9)
		}
		if got := m.Mem().Get(r.frame, frame.PC); got != want {
			t.Errorf("%s of %v: pc %v", x.code, x.v, got)
		}
	}
	for _, code := range []string{"iftrue 0 61", "iftrue 1 0", "iffalse 0 61"} {
		r := newRig(code, 0, 0, num(7), obj(1+strings.Count(code, "false")))
		m := made(t, r.World)
		if m.Step() != api.Broken || len(stack(m.Mem(), r.frame)) != 1 {
			t.Errorf("%s", code)
		}
	}
	for _, code := range []string{"iftrue 0 9", "iffalse 0 9"} {
		r := newRig(code, 0, 0, num(7), num(1))
		m := made(t, r.World)
		m.Step()
		r.enters(t, code, m, r.method, num(1))
		if !slices.Equal(stack(m.Mem(), r.frame), []api.Val{num(7)}) {
			t.Errorf("%s: stack %v", code, stack(m.Mem(), r.frame))
		}
		if r = newRig(code, 0, 0); made(t, r.World).Step() != api.Broken {
			t.Errorf("%s of nothing", code)
		}
		// a method with a primitive is entered: none is tried
		r = newRig(code, 0, 60, none)
		m = made(t, r.World)
		m.Step()
		r.enters(t, code, m, r.method, none)
	}
}

// P20.2: ways back.
func TestBack(t *testing.T) {
	for _, code := range []string{"ret", "up"} {
		r := newRig(code, 0, 0, num(7), num(8))
		below := kit.Frame(&r.World, 0, r.main, num(1))
		r.L[r.frame].F[frame.Sender] = obj(below)
		m := made(t, r.World)
		if m.Step() != api.Runs || m.Mem().Regs().Frame != below || !slices.Equal(stack(m.Mem(), below), []api.Val{num(8)}) {
			t.Errorf("%s", code)
		}
		if r = newRig(code, 0, 0); made(t, r.World).Step() != api.Broken {
			t.Errorf("%s of nothing", code)
		}
		r = newRig(code, 0, 0, num(7))
		other := kit.Proc(&r.World, r.frame, 3)
		r.R.Ready = []int{other}
		m = made(t, r.World)
		if m.Step() != api.Runs || m.Mem().Regs().Proc != other || m.Mem().Regs().Frame != r.frame {
			t.Errorf("%s: the next process does not go on", code)
		}
		r = newRig(code, 0, 0, num(7))
		below = kit.Frame(&r.World, 0, r.main, num(1))
		r.L[below].F[frame.SP] = num(16)
		r.L[r.frame].F[frame.Sender] = obj(below)
		if made(t, r.World).Step() != api.Broken {
			t.Errorf("%s where there is no room", code)
		}
	}
	r := newRig("", 0, 0, num(7)) // up, from a block
	below := kit.Frame(&r.World, 0, r.main, num(1))
	r.L[r.frame].F[frame.Sender] = obj(below)
	r.L[r.L[r.main].F[3].N].B = kit.Code("up")
	b := kit.Block(&r.World, r.frame, 0, 0, 0)
	inner := kit.Frame(&r.World, r.frame, r.main, num(1), num(5))
	r.L[inner].F[frame.Block] = obj(b)
	r.R.Frame = inner
	m := made(t, r.World)
	if m.Step() != api.Runs || m.Mem().Regs().Frame != below || !slices.Equal(stack(m.Mem(), below), []api.Val{num(5)}) {
		t.Error("up from a block")
	}
}

// P20.2: messages.
func TestSend(t *testing.T) {
	r := newRig("send 0 2", 2, 0, num(1), obj(5), num(6), num(7))
	m := made(t, r.World)
	if m.Step() != api.Runs {
		t.Fatal("how")
	}
	r.enters(t, "send", m, r.method, obj(5), num(6), num(7))
	if !slices.Equal(stack(m.Mem(), r.frame), []api.Val{num(1)}) {
		t.Error("the stack")
	}
	m.Step()
	m.Step()
	r.stays(t, "sent and returned", m, num(1), num(99))
	for what, x := range map[string]*rig{
		"no receiver": newRig("send 0 2", 2, 0, obj(5), num(6)),
		"no value":    newRig("send 1 0", 0, 0, obj(5)),
		"far value":   newRig("send 255 0", 0, 0, obj(5)),
		"other args":  newRig("send 0 1", 2, 0, obj(5), num(6)),
		"nine":        newRig("send 0 9", 2, 0, slices.Repeat([]api.Val{none}, 12)...),
	} {
		if made(t, x.World).Step() != api.Broken {
			t.Errorf("%s", what)
		}
	}
	r = newRig("send 0 0", 0, 0, none)
	r.L[r.main].F[4] = num(3)
	if made(t, r.World).Step() != api.Broken {
		t.Error("a name that is no thing")
	}
	r = newRig("send 0 1", 2, 0, obj(5), num(6))
	r.L[r.main].F[4] = obj(r.self)
	m = made(t, r.World)
	m.Step()
	r.enters(t, "lost", m, r.lost, obj(5), obj(r.next+1))
	if x := m.Mem().Thing(r.next + 1); !slices.Equal(x.F, []api.Val{obj(r.self), obj(r.next)}) {
		t.Errorf("the message %v", x)
	}
	r.L[r.dict].F[2] = none
	if made(t, r.World).Step() != api.Broken {
		t.Error("lost is not understood")
	}
	r = newRig("send 0 0", 0, 0, none)
	r.Last = api.MaxObjects
	m = made(t, r.World)
	if m.Step() != api.Full {
		t.Error("no more may be made")
	}
	ends(t, "full", m, api.Full)
}

// P20.2: what is found, but is no method, has no primitive.
func TestNoMethod(t *testing.T) {
	r := newRig("send 0 0", 0, 60, num(5))
	r.L[r.method].F[1] = num(9)
	m := made(t, r.World)
	if m.Step() != api.Broken || !slices.Equal(stack(m.Mem(), r.frame), []api.Val{num(5)}) {
		t.Error("a primitive is tried")
	}
}

// P20.2: messages to what is behind a class.
func TestSuper(t *testing.T) {
	rigs := func() (*rig, int) {
		r := newRig("super 0 1", 1, 0, obj(5), num(6))
		other := kit.Method(&r.World, 1, 1, 0, "")
		dict := kit.Plain(&r.World, api.ClassArray, obj(r.name), obj(other))
		behind := kit.Class(&r.World, 0, dict, 0, api.Plain)
		class := kit.Class(&r.World, behind, 0, 0, api.Plain)
		r.L[r.main].F = append(r.L[r.main].F, obj(class))
		r.next = len(r.L)
		return r, other
	}
	r, other := rigs()
	m := made(t, r.World)
	m.Step()
	r.enters(t, "super", m, other, obj(5), num(6))
	for what, turn := range map[string]func(r *rig){
		"last is no thing": func(r *rig) { r.L[r.main].F[5] = num(3) },
		"none behind":      func(r *rig) { r.L[r.L[r.main].F[5].N].F[0] = num(3) },
		"last is bytes":    func(r *rig) { r.L[r.main].F[5] = obj(r.name) },
		"no receiver":      func(r *rig) { r.L[r.frame].F[frame.SP] = num(1) },
		"no name":          func(r *rig) { r.L[r.main].F[4] = num(1) },
	} {
		r, _ := rigs()
		turn(r)
		if made(t, r.World).Step() != api.Broken {
			t.Errorf("%s", what)
		}
	}
	r, _ = rigs()
	r.L[r.main].F[5] = obj(r.self) // no class, but it has an F[0]
	r.L[r.self].F[0] = obj(r.root)
	m = made(t, r.World)
	m.Step()
	r.enters(t, "behind what is no class", m, r.method, obj(5), num(6))
}

// goes tells that a primitive goes: its answer is in place of receiver and arguments.
func goes(t *testing.T, want api.Val, prim int, l ...api.Val) (*rig, *ideal.Machine) {
	t.Helper()
	return goesIn(t, func(r *rig) {}, want, prim, l...)
}

func sent(prim int, l []api.Val) *rig {
	return newRig("send 0 "+string([]byte{byte('0' + len(l) - 1)}), len(l)-1, prim, append([]api.Val{num(77)}, l...)...)
}

func goesIn(t *testing.T, turn func(r *rig), want api.Val, prim int, l ...api.Val) (*rig, *ideal.Machine) {
	t.Helper()
	r := sent(prim, l)
	turn(r)
	r.next = len(r.L)
	m := made(t, r.World)
	m.Step()
	r.stays(t, "primitive", m, num(77), want)
	return r, m
}

// fails tells that a primitive fails: the method's own code runs, and nothing else is turned.
func fails(t *testing.T, turn func(r *rig), prim int, l ...api.Val) {
	t.Helper()
	r := sent(prim, l)
	turn(r)
	r.next = len(r.L)
	m := made(t, r.World)
	m.Step()
	r.enters(t, "primitive", m, r.method, l[0], l[1:]...)
	plain := image.Copy(r.World)
	plain.L[r.method].F[2] = num(0)
	n := made(t, plain)
	n.Step()
	got, want := m.World(), n.World()
	got.L[r.method].F[2] = num(0)
	if !reflect.DeepEqual(got, want) {
		t.Errorf("primitive %d of %v fails, and something is turned", prim, l)
	}
}

func as(r *rig) {}

// P20.3: 1 to 15.
func TestNumbers(t *testing.T) {
	goes(t, num(7), 1, num(3), num(4))
	goes(t, obj(1), 6, num(3), num(4))
	goes(t, num(12), 15, num(3), num(2))
	fails(t, as, 1, num(api.MaxInt-1), num(1))
	fails(t, as, 1, num(3), none)
	fails(t, as, 1, none, num(3))
	fails(t, as, 1, num(3))
	fails(t, as, 1, num(3), num(3), num(3))
	fails(t, as, 4, num(3), num(0))
	for _, n := range []int{16, 19, 39, 49, 61, 200} {
		fails(t, as, n, num(3), num(4))
		fails(t, as, n, num(3))
	}
}

// P20.3: 20 to 38.
func TestThings(t *testing.T) {
	r := sent(20, []api.Val{num(1)})
	goes(t, obj(2), 20, num(3), num(4))
	goes(t, num(12), 24, obj(r.self), num(2))
	goes(t, num(5), 25, obj(r.self), num(2), num(5))
	goes(t, obj(r.next), 26, obj(api.ClassArray))
	goes(t, num(2), 23, obj(r.self))
	fails(t, as, 24, obj(r.self), num(3))
	fails(t, as, 24, obj(r.self))
	fails(t, as, 28, obj(r.self), obj(r.frame))
	fails(t, as, 38, obj(r.self))
	fails(t, func(r *rig) { r.L[api.ClassArray].F[4] = num(api.Bytes) }, 29, obj(r.root))
	// fails as it would, where no more may be made; its own code can't run then
	r = sent(26, []api.Val{obj(api.ClassArray)})
	r.Last = api.MaxObjects
	if m := made(t, r.World); m.Step() != api.Full || len(stack(m.Mem(), r.frame)) != 2 {
		t.Error("26 where no more may be made")
	}
	r = sent(26, []api.Val{obj(api.ClassArray)})
	r.Last = api.MaxObjects
	r.L[r.method].F[0], r.L[r.method].F[1] = num(1), num(1)
	if made(t, r.World).Step() != api.Broken {
		t.Error("26 where no more may be made, of other args")
	}
}

// P20.3: where the frame itself is turned.
func TestTurnedFrame(t *testing.T) {
	turned := func(i int, v api.Val) *ideal.Machine {
		r := sent(25, []api.Val{none, num(i + 1), v})
		r.L[r.frame].F[frame.Slots+1] = obj(r.frame)
		m := made(t, r.World)
		m.Step()
		return m
	}
	if turned(frame.Method, num(3)).Mem().Regs().How != api.Broken || turned(frame.SP, none).Mem().Regs().How != api.Broken {
		t.Error("no frame any more")
	}
	m := turned(frame.SP, num(0))
	if f := m.Mem().Regs().Frame; m.Mem().Regs().How != api.Runs || !slices.Equal(stack(m.Mem(), f), []api.Val{num(0)}) {
		t.Errorf("nothing to pop: %v", stack(m.Mem(), f))
	}
	m = turned(frame.SP, num(16))
	if f := m.Mem().Regs().Frame; m.Mem().Regs().How != api.Runs || len(stack(m.Mem(), f)) != 14 || stack(m.Mem(), f)[13] != num(16) {
		t.Errorf("others are popped: %v", stack(m.Mem(), f))
	}
	// what is the method becomes another thing
	r := sent(28, []api.Val{none, none})
	r.L[r.frame].F[frame.Slots+1], r.L[r.frame].F[frame.Slots+2] = obj(r.main), obj(r.self)
	m = made(t, r.World)
	if m.Step() != api.Broken {
		t.Error("the method is none any more")
	}
}

// block adds a block of the first frame.
func block(r *rig, args int) int { return kit.Block(&r.World, r.frame, args, args+1, 3) }

// P20.3: 50.
func TestCall(t *testing.T) {
	for n := range 3 {
		l := append([]api.Val{none}, slices.Repeat([]api.Val{num(4)}, n)...)
		r := sent(50, l)
		b := block(r, n)
		r.L[r.frame].F[frame.Slots+1] = obj(b)
		r.next = len(r.L)
		m := made(t, r.World)
		m.Step()
		r.enters(t, "50", m, r.main, obj(r.self), l[1:]...)
		if f := m.Mem().Regs().Frame; m.Mem().Get(f, frame.Block) != obj(b) || m.Mem().Get(f, frame.PC) != num(3) || m.Mem().Get(f, frame.SP) != num(n+1) || m.Mem().Get(f, frame.Sender) != obj(r.frame) {
			t.Error("the block's frame")
		}
		if !slices.Equal(stack(m.Mem(), r.frame), []api.Val{num(77)}) {
			t.Error("the stack")
		}
		r.Last = api.MaxObjects
		if made(t, r.World).Step() != api.Full {
			t.Error("no more may be made")
		}
		fails(t, as, 50, l...)
	}
}

// P20.3: 51.
func TestPerform(t *testing.T) {
	for n := 1; n <= 8; n++ {
		l := append([]api.Val{obj(5), none}, slices.Repeat([]api.Val{num(4), num(5)}, 4)[:n-1]...)
		r := sent(51, l)
		other := kit.Bytes(&r.World, api.ClassName, "other")
		// the primitive that it has is not tried
		method := kit.Method(&r.World, n-1, n-1, 20, "")
		r.L[r.dict].F = append(r.L[r.dict].F, obj(other), obj(method))
		r.L[r.frame].F[frame.Slots+2] = obj(other)
		r.next = len(r.L)
		m := made(t, r.World)
		m.Step()
		r.enters(t, "51", m, method, obj(5), l[2:]...)
		if !slices.Equal(stack(m.Mem(), r.frame), []api.Val{num(77)}) {
			t.Errorf("the stack: %v", stack(m.Mem(), r.frame))
		}
	}
	r := sent(51, []api.Val{obj(5), obj(6), num(7)})
	m := made(t, r.World)
	m.Step()
	r.enters(t, "51, lost", m, r.lost, obj(5), obj(r.next+1))
	if x := m.Mem().Thing(r.next + 1); x.F[0] != obj(6) {
		t.Errorf("the message %v", x)
	}
	fails(t, as, 51, obj(5), num(6))
	fails(t, as, 51, obj(5))
	r = newRig("send 0 9", 0, 51, slices.Repeat([]api.Val{obj(3)}, 10)...)
	m = made(t, r.World)
	if m.Step() != api.Broken || len(stack(m.Mem(), r.frame)) != 10 {
		t.Error("of nine")
	}
}

// P20.3: 52.
func TestFork(t *testing.T) {
	rigged := func(l ...api.Val) *rig {
		r := sent(52, l)
		b := block(r, 0)
		if l[0] == none {
			r.L[r.frame].F[frame.Slots+1] = obj(b)
		}
		r.next = len(r.L)
		return r
	}
	for _, level := range []int{1, 9} {
		r := rigged(none, num(level))
		m := made(t, r.World)
		m.Step()
		r.stays(t, "52", m, num(77), obj(r.next+1))
		want := []api.Val{none, num(3), num(1), obj(r.main), obj(r.self), obj(r.next - 1)}
		if x := m.Mem().Thing(r.next); !slices.Equal(x.F[:6], want) || len(x.F) != 22 || x.F[6] != none {
			t.Errorf("the frame %v", x)
		}
		if x := m.Mem().Thing(r.next + 1); x.Class != api.ClassProc || !slices.Equal(x.F, []api.Val{obj(r.next), num(level)}) {
			t.Errorf("the process %v", x)
		}
		if !slices.Equal(m.Mem().Regs().Ready, []int{r.next + 1}) {
			t.Error("it is not ready")
		}
	}
	own := func(what string, r *rig, things int) {
		t.Helper()
		m := made(t, r.World)
		m.Step()
		if x := m.Mem().Regs(); x.How != api.Runs || m.Mem().Get(x.Frame, frame.Method) != obj(r.method) || m.Mem().Len() != r.next+things+1 {
			t.Errorf("%s: how %d, %d things", what, x.How, m.Mem().Len()-r.next)
		}
	}
	own("level 0", rigged(none, num(0)), 0)
	own("level 10", rigged(none, num(10)), 0)
	own("no number", rigged(none, none), 0)
	own("no argument", rigged(none), 0)
	own("no block", rigged(num(3), num(1)), 0)
	own("another thing", rigged(obj(5), num(1)), 0)
	r := rigged(none, num(1))
	r.L[r.next-1].F[1] = num(1)
	own("a block with an argument", r, 0)
	r = rigged(none, num(1))
	odd := kit.Frame(&r.World, 0, r.main, none)
	r.L[odd].F[frame.PC] = none
	r.L[odd-1].F[0] = obj(odd)
	r.next = len(r.L)
	own("a home that is no frame", r, 0)
	r = rigged(none, num(1))
	r.R.Ready = slices.Repeat([]int{r.proc}, 20)
	own("no room", r, 2)
	r = rigged(none, num(1))
	r.L[api.ClassProc].F[3] = num(1)
	own("ClassProc", r, 1)
	r = rigged(none, num(1))
	r.L[api.ClassFrame].F[3] = num(23)
	if m := made(t, r.World); m.Step() != api.Full || m.Mem().Len() != r.next || len(m.Mem().Regs().Ready) != 0 {
		t.Error("ClassFrame")
	}
}

// P20.3: 53 to 55.
func TestProcesses(t *testing.T) {
	_, m := goes(t, obj(5), 53, obj(5)) // alone: it goes on itself
	if m.Mem().Get(m.Mem().Regs().Proc, 0) != obj(m.Mem().Regs().Frame) {
		t.Error("53 alone")
	}
	other := func(r *rig) {
		f := kit.Frame(&r.World, 0, r.main, num(1))
		r.R.Ready = []int{kit.Proc(&r.World, f, 5)}
		kit.Sema(&r.World, 0)
	}
	r := sent(53, []api.Val{obj(5)})
	other(r)
	m = made(t, r.World)
	m.Step()
	if x := m.Mem().Regs(); x.Proc != r.next+1 || x.Frame != r.next || !slices.Equal(x.Ready, []int{r.proc}) || !slices.Equal(stack(m.Mem(), r.frame), []api.Val{num(77), obj(5)}) {
		t.Errorf("53: %v", x)
	}
	goesIn(t, func(r *rig) { other(r); r.R.Ready = slices.Repeat(r.R.Ready, 20) }, obj(5), 53, obj(5))
	fails(t, func(r *rig) { r.R.Proc = 0 }, 53, obj(5))
	fails(t, func(r *rig) { r.R.Proc = r.self }, 53, obj(5))
	fails(t, as, 53, obj(5), num(1))

	_, m = goes(t, obj(api.SemaDue), 54, obj(api.SemaDue))
	if m.Mem().Get(api.SemaDue, 0) != num(1) {
		t.Error("54")
	}
	fails(t, as, 54, none)
	fails(t, as, 54, num(api.SemaDue))
	fails(t, func(r *rig) { r.L[api.SemaDue].F[0] = num(api.MaxInt - 1) }, 54, obj(api.SemaDue))
	fails(t, as, 54, obj(api.SemaDue), num(1))

	_, m = goesIn(t, func(r *rig) { r.L[api.SemaDue].F[0] = num(2) }, obj(api.SemaDue), 55, obj(api.SemaDue))
	if m.Mem().Get(api.SemaDue, 0) != num(1) {
		t.Error("55 of a number above 0")
	}
	r = sent(55, []api.Val{obj(api.SemaDue)})
	other(r)
	m = made(t, r.World)
	m.Step()
	if x := m.Mem().Regs(); x.Proc != r.next+1 || x.Frame != r.next || len(x.Ready) != 0 || !slices.Equal(x.Wait, []api.Wait{{Sema: api.SemaDue, Proc: r.proc}}) || !slices.Equal(stack(m.Mem(), r.frame), []api.Val{num(77), obj(api.SemaDue)}) || m.Mem().Get(r.proc, 0) != obj(r.frame) {
		t.Errorf("55: %v", x)
	}
	r = sent(55, []api.Val{obj(api.SemaDue)})
	if made(t, r.World).Step() != api.Rests {
		t.Error("55 where none is ready")
	}
	goesIn(t, func(r *rig) { // whatever Await says
		r.R.Wait = slices.Repeat([]api.Wait{{Sema: api.SemaDue, Proc: r.proc}}, 20)
	}, obj(api.SemaDue), 55, obj(api.SemaDue))
	fails(t, func(r *rig) { r.R.Proc = 0 }, 55, obj(api.SemaDue))
	fails(t, as, 55, none)
	fails(t, as, 55, num(3))
	fails(t, as, 55, obj(api.SemaDue), num(1))
}

// P20.3: 56 and 57.
func TestBytes(t *testing.T) {
	for _, b := range []int{0, 'x', 255} {
		_, m := goesIn(t, func(r *rig) { r.R.Out = "o" }, obj(5), 56, obj(5), num(b))
		if m.World().R.Out != "o"+string([]byte{byte(b)}) {
			t.Errorf("Out %q", m.World().R.Out)
		}
	}
	for _, v := range []api.Val{num(-1), num(256), obj(5), num(api.MaxInt - 1)} {
		fails(t, as, 56, obj(5), v)
	}
	fails(t, as, 56, obj(5))
	fails(t, func(r *rig) { r.R.Out = strings.Repeat("o", api.MaxText) }, 56, obj(5), num(1))
	_, m := goesIn(t, func(r *rig) { r.R.In = "\xffb" }, num(255), 57, obj(5))
	if m.World().R.In != "b" {
		t.Errorf("In %q", m.World().R.In)
	}
	goes(t, none, 57, num(3))
	fails(t, func(r *rig) { r.R.In = "b" }, 57, obj(5), num(1))
}

// P20.3: 58.
func TestEnd(t *testing.T) {
	for _, v := range []int{0, 255} {
		r := sent(58, []api.Val{obj(5), num(v)})
		m := made(t, r.World)
		if m.Step() != api.Ended || m.World().R.Exit != v || !slices.Equal(stack(m.Mem(), r.frame), []api.Val{num(77), obj(5), num(v)}) {
			t.Errorf("58 of %d", v)
		}
		ends(t, "58", m, api.Ended)
	}
	for _, v := range []api.Val{num(-1), num(256), obj(5)} {
		fails(t, as, 58, obj(5), v)
	}
	fails(t, as, 58, obj(5))
}

// P20.3: 59.
func TestSnapshot(t *testing.T) {
	r, m := goesIn(t, func(r *rig) { r.R.Out, r.R.In = "o", "i"; kit.Plain(&r.World, api.ClassArray) }, obj(1), 59, obj(5))
	w := m.World()
	if len(w.R.Snaps) != 1 {
		t.Fatal("no snapshot")
	}
	if b, _ := image.Put(reach.Canon(w)); string(b) != w.R.Snaps[0] {
		t.Error("other bytes")
	}
	got, err := image.Get([]byte(w.R.Snaps[0]))
	if err != api.OK || len(got.L) != r.next-1 {
		t.Error("no image, or more than can be come to")
	}
	fails(t, func(r *rig) { r.R.Snaps = make([]string, api.MaxQueue) }, 59, obj(5))
	goesIn(t, func(r *rig) { r.R.Snaps = make([]string, api.MaxQueue-1) }, obj(1), 59, obj(5))
	fails(t, as, 59, obj(5), num(1))
	r, m = goesIn(t, func(r *rig) {
		for range 300 {
			r.L[r.self].F = []api.Val{obj(kit.Plain(&r.World, api.ClassArray, slices.Repeat([]api.Val{r.L[r.self].F[0]}, 60)...))}
		}
	}, obj(1), 59, obj(5))
	if len(m.World().R.Snaps) != 0 {
		t.Error("more than a file has")
	}
}

// P20.3: 60.
func TestDue(t *testing.T) {
	r := sent(60, []api.Val{obj(5)})
	_, m := goesIn(t, func(r *rig) { r.R.Due = []int{r.self, r.root} }, obj(r.self), 60, obj(5))
	if got := m.Mem().Regs().Due; !slices.Equal(got, []int{r.root}) {
		t.Errorf("due %v", got)
	}
	goes(t, none, 60, obj(5))
	fails(t, func(r *rig) { r.R.Due = []int{r.self} }, 60, obj(5), num(1))
}

// R1: whatever it is told.
func TestAnyBudget(t *testing.T) {
	m := made(t, newRig("", 0, 0).World)
	for _, n := range []int{math.MaxInt, math.MinInt, -1} {
		if got := m.Work(n); got != max(0, min(n, api.MaxSteps)) {
			t.Errorf("Work(%d): %d", n, got)
		}
	}
}
