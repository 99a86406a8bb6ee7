package kit

import (
	"colloquy/api"
	"colloquy/code"
	"colloquy/start"
)

// prims are primitives, with how many arguments each is sent.
func prims() [][2]int {
	return [][2]int{
		{1, 1}, {2, 1}, {6, 1}, {10, 1},
		{20, 1}, {21, 0}, {22, 0}, {23, 0}, {24, 1}, {25, 2}, {26, 0}, {27, 1}, {28, 1}, {29, 0}, {30, 0}, {31, 0}, {32, 1}, {33, 0}, {34, 1}, {36, 1}, {38, 0},
		{50, 0}, {50, 1}, {51, 1}, {51, 2}, {52, 1}, {53, 0}, {54, 0}, {55, 0}, {56, 1}, {57, 0}, {59, 0}, {60, 0},
	}
}

// message is a name, and how many arguments it is sent with.
type message struct{ name, args int }

// writer writes a random program.
type writer struct {
	quiet    bool // without Weak things, Final ones, and the primitives 29, 30
	dice     Dice
	w        *api.World
	messages []message
	data     []api.Val
	l        []code.Ins
	lits     []api.Val
	depth    int
	temps    int
}

// Program is a world in which some processes run on and on, and do what there is to do, for the most part.
func Program(dice Dice) api.World { return program(dice, false) }

// Quiet is such a world without Weak things, Final ones, and the primitives 29, 30, 31.
func Quiet(dice Dice) api.World { return program(dice, true) }

func program(dice Dice, quiet bool) api.World {
	w := start.World()
	x := &writer{dice: dice, w: &w, quiet: quiet}
	x.understand()
	x.things()
	for range 3 { // methods of the program's own, sent like others
		args := dice(3)
		m := x.method(args, args+dice(2), false)
		x.enter(m, args)
	}
	for i := range 1 + dice(3) {
		f := Frame(&w, 0, x.method(0, 3, true), x.data[dice(len(x.data))])
		w.L[f].F[2] = Num(3) // sp: behind the temps
		p := Proc(&w, f, 1+dice(3))
		if i == 0 {
			w.R.Proc, w.R.Frame = p, f
		} else {
			w.R.Ready = append(w.R.Ready, p)
		}
	}
	if dice(2) == 0 {
		w.R.Wait = append(w.R.Wait, api.Wait{Sema: api.SemaDue, Proc: Proc(&w, 0, 7)})
	}
	w.R.In = "some bytes"
	return w
}

// understand gives all classes a class behind them that understands all primitives.
func (x *writer) understand() {
	lost := Method(x.w, 1, 1, 0, Code("self, ret"))
	truth := Method(x.w, 0, 0, 0, Code("const 1, ret"))
	first := Plain(x.w, api.ClassArray, Obj(api.NameLost), Obj(lost), Obj(api.NameBack), Obj(lost), Obj(api.NameBool), Obj(truth))
	second := Plain(x.w, api.ClassArray)
	behind := Class(x.w, 0, second, 0, api.Plain)
	root := Class(x.w, behind, first, 0, api.Plain)
	for class := api.ClassNil; class <= api.ClassPoint; class++ {
		x.w.L[class].F[0] = Obj(root)
	}
	for i, p := range prims() {
		if x.quiet && p[0] >= 29 && p[0] <= 31 {
			continue
		}
		dict := first
		if i%2 == 0 {
			dict = second
		}
		name := Bytes(x.w, api.ClassName, "p")
		own := []string{"self, ret", "const 0, ret", "int 130, ret"}[x.dice(3)]
		method := Method(x.w, p[1], p[1], p[0], Code(own))
		x.w.L[dict].F = append(x.w.L[dict].F, Obj(name), Obj(method))
		x.messages = append(x.messages, message{name, p[1]})
	}
	x.data = append(x.data, Obj(root))
}

// enter lets a method be understood.
func (x *writer) enter(method, args int) {
	name := Bytes(x.w, api.ClassName, "m")
	behind := x.w.L[api.ClassInt].F[0].N
	dict := x.w.L[behind].F[1].N
	if len(x.w.L[dict].F) < api.MaxFields {
		x.w.L[dict].F = append(x.w.L[dict].F, Obj(name), Obj(method))
	}
	x.messages = append(x.messages, message{name, args})
}

// things makes what the program is about.
func (x *writer) things() {
	w, dice := x.w, x.dice
	for range 3 + dice(6) {
		n := len(w.L)
		kind := dice(6)
		if x.quiet && kind == 0 {
			kind = 1
		}
		switch kind {
		case 0:
			Weak(w, x.some(), x.some())
		case 1:
			Sema(w, dice(3))
		case 2:
			Plain(w, api.ClassPoint, Num(dice(9)-4), Num(dice(9)-4))
		case 3:
			Bytes(w, api.ClassText, "text"[:dice(5)])
		default:
			Plain(w, api.ClassArray, x.some(), x.some(), x.some())
		}
		w.L[n].Final = dice(4) == 0 && !x.quiet
		x.data = append(x.data, Obj(n))
	}
	for _, class := range []int{api.ClassArray, api.ClassText, api.ClassPoint, api.ClassSema, api.ClassWeak} {
		if class != api.ClassWeak || !x.quiet {
			x.data = append(x.data, Obj(class))
		}
	}
}

// some is a value that there is already.
func (x *writer) some() api.Val {
	if x.dice(3) == 0 {
		return Num(x.dice(6))
	}
	return x.data[x.dice(len(x.data))]
}

// method writes one; one that goes on begins anew at its end.
func (x *writer) method(args, temps int, on bool) int {
	x.l, x.lits, x.depth, x.temps = nil, nil, 0, temps
	for len(x.l) < 30 {
		x.statement()
	}
	if on {
		x.add("jump", 0, 0)
	} else {
		x.value(1)
		x.add("ret", 0, 0)
	}
	return Method(x.w, args, temps, 0, code.Put(x.l), x.lits...)
}

func (x *writer) add(name string, a, b int) {
	x.l = append(x.l, code.Ins{Op: code.Op(name), A: a, B: b})
}

// lit is the number of a value among those of the method.
func (x *writer) lit(v api.Val) int {
	for i, old := range x.lits {
		if old == v {
			return i
		}
	}
	if len(x.lits) == 50 {
		return 0
	}
	x.lits = append(x.lits, v)
	return len(x.lits) - 1
}

// statement leaves nothing on the stack.
func (x *writer) statement() {
	x.value(3)
	if x.temps > 0 && x.dice(3) > 0 {
		x.add("set", x.dice(x.temps), 0)
	} else {
		x.add("pop", 0, 0)
	}
}

// value writes what leaves one value on the stack; how deep it may go.
func (x *writer) value(deep int) {
	if deep == 0 || len(x.l) > 45 {
		x.simple()
		return
	}
	switch x.dice(8) {
	case 0, 1:
		x.simple()
	case 2:
		n := x.dice(3)
		for range n {
			x.value(deep - 1)
		}
		x.add("array", n, 0)
	case 3:
		x.block(deep)
	default:
		m := x.messages[x.dice(len(x.messages))]
		for range m.args + 1 {
			x.value(deep - 1)
		}
		x.add("send", x.lit(Obj(m.name)), m.args)
	}
}

// block writes a block, and the jump behind it.
func (x *writer) block(deep int) {
	x.add("block", 0, x.dice(2))
	at := len(x.l)
	x.add("jump", 0, 0)
	x.value(deep - 1)
	x.add([]string{"ret", "ret", "up"}[x.dice(3)], 0, 0)
	x.l[at].B = len(x.l)
}

func (x *writer) simple() {
	switch x.dice(7) {
	case 0:
		x.add("self", 0, 0)
	case 1:
		if x.temps > 0 {
			x.add("temp", x.dice(x.temps), 0)
			return
		}
		x.add("const", x.dice(3), 0)
	case 2:
		x.add("int", 126+x.dice(8), 0)
	case 3:
		x.add("frame", 0, 0)
	default:
		x.add("lit", x.lit(x.some()), 0)
	}
}

// Events are so many things that happen to a machine.
func Events(dice Dice, n int) []api.Event {
	var l []api.Event
	for range n {
		switch dice(8) {
		case 0:
			l = append(l, api.Event{Kind: api.EvTick})
		case 1:
			l = append(l, api.Event{Kind: api.EvInput, S: "in"[:dice(3)]})
		case 2, 3, 4:
			l = append(l, api.Event{Kind: api.EvWork, N: dice(30)})
		default:
			l = append(l, api.Event{Kind: api.EvSteps, N: dice(30)})
		}
	}
	return l
}
