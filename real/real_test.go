package real_test

import (
	"math"
	"math/rand"
	"reflect"
	"slices"
	"testing"

	"colloquy/api"
	"colloquy/ideal"
	"colloquy/image"
	"colloquy/kit"
	"colloquy/reach"
	"colloquy/real"
	"colloquy/start"
	"colloquy/word"
)

var obj, num, none = kit.Obj, kit.Num, kit.Obj(api.Nil)

// size is how many words a world's things have.
func size(w api.World) int {
	n := 0
	for _, t := range w.L {
		n += 3 + len(t.F) + (len(t.B)+3)/4
	}
	return n
}

func made(t *testing.T, w api.World, words, most int) *real.Machine {
	t.Helper()
	m, err := real.New(w, words, most)
	if err != api.OK {
		t.Fatalf("error %d", err)
	}
	return m
}

// P23.1: what a machine is of.
func TestNew(t *testing.T) {
	refused := func(what string, w api.World, words int, want api.Errno) {
		t.Helper()
		if m, err := real.New(w, words, 5); m != nil || err != want {
			t.Errorf("%s: error %d", what, err)
		}
	}
	w := start.World()
	kit.Plain(&w, api.ClassArray, num(1))
	w.R.Frame = 23
	refused("one word less", w, size(w)-1, api.ErrRoom)
	refused("none", w, 0, api.ErrRoom)
	refused("below 0", w, math.MinInt, api.ErrRoom)
	bad := image.Copy(w)
	bad.L[0].Class = 7
	refused("what may not be", bad, 1000, api.ErrImage)
	refused("what may not be, in too few", bad, 0, api.ErrImage)
	dead := image.Copy(w)
	dead.R.Frame = 0
	dead.Dead = make([]bool, len(w.L))
	if _, err := real.New(dead, 1000, 5); err != api.OK {
		t.Error("nothing is dead")
	}
	dead.Dead[23] = true
	refused("something is dead", dead, 1000, api.ErrImage)
	refused("something is dead, in too few", dead, 0, api.ErrImage)

	m := made(t, w, size(w), 5)
	got, ok := m.World()
	if used, all := m.Heap().Words(); !ok || !reach.Same(got, w) || used != size(w) || all != size(w) || m.Phase() != api.Idle {
		t.Error("the world")
	}
	first := m.First()
	if len(first) != api.Specials || m.Regs().Frame != m.At(24) || m.Heap().Field(m.At(24), 0) != word.Int(1) {
		t.Error("places")
	}
	for id, at := range first {
		if at == 0 || m.At(id+1) != at || m.Heap().Hash(at) != id+1 {
			t.Errorf("thing %d is at %d", id, at)
		}
	}
	first[0] = 0
	if m.First()[0] == 0 {
		t.Error("what is answered is kept")
	}
	for _, hash := range []int{0, -1, 25, api.MaxObjects, api.MaxObjects + 1, math.MaxInt, math.MinInt} {
		if m.At(hash) != 0 {
			t.Errorf("something has the hash %d", hash)
		}
	}
}

// P23.1: registers with places in the heap.
func TestRegs(t *testing.T) {
	w := start.World()
	for range 4 {
		kit.Sema(&w, 0)
	}
	w.R = api.Regs{Proc: 23, Ready: []int{24, 25}, Wait: []api.Wait{{Sema: 26, Proc: 24}}, Due: []int{25}, Out: "o", In: "i", How: 2, Exit: 3, Snaps: []string{"s"}}
	m := made(t, w, 1000, 5)
	at := func(id int) int { return m.At(id + 1) }
	want := api.Regs{Proc: at(23), Ready: []int{at(24), at(25)}, Wait: []api.Wait{{Sema: at(26), Proc: at(24)}}, Due: []int{at(25)}, Out: "o", In: "i", How: 2, Exit: 3, Snaps: []string{"s"}}
	got := m.Regs()
	if !reflect.DeepEqual(got, want) {
		t.Errorf("%v", got)
	}
	clear(got.Ready)
	clear(got.Snaps)
	if !reflect.DeepEqual(m.Regs(), want) {
		t.Error("what is answered is kept")
	}
}

// looped is a world whose process does some instructions, again and again.
func looped(code string, lits ...api.Val) api.World {
	w := start.World()
	method := kit.Method(&w, 0, 0, 0, kit.Code(code+", jump 0 0"), lits...)
	f := kit.Frame(&w, 0, method, none)
	w.R.Proc, w.R.Frame = kit.Proc(&w, f, 1), f
	return w
}

// P23.1: where there is no room, How is Full, and no more is done.
func TestFull(t *testing.T) {
	w := looped("array 0, pop")
	for _, room := range []int{0, 1, 2, 3, 8, 9} {
		m := made(t, w, size(w)+room, 5)
		steps := 0
		for m.Step() == api.Runs {
			steps++
		}
		if m.Regs().How != api.Full || steps != room/3*3 {
			t.Errorf("%d words: how %d behind %d steps", room, m.Regs().How, steps)
		}
		full, ok := m.World()
		if !ok || !image.Check(full) {
			t.Error("no world where it is full")
		}
		m.Tick()
		if m.Step() != api.Full || m.Work(5) != 0 || m.Input("x") {
			t.Error("something is done still")
		}
		if again, _ := m.World(); !reflect.DeepEqual(again, full) {
			t.Error("something is turned still")
		}
	}
}

// P23.1: the last thing that may be made.
func TestLast(t *testing.T) {
	w := looped("array 0, pop")
	w.Last = api.MaxObjects - 1
	m := made(t, w, 1000, 5)
	if m.Step() != api.Runs || m.At(api.MaxObjects) == 0 || m.Heap().Hash(m.At(api.MaxObjects)) != api.MaxObjects {
		t.Error("the last one")
	}
	m.Step()
	m.Step()
	if m.Step() != api.Full {
		t.Error("one more")
	}
}

// P23.1: of a primitive that would make it, too; its method's own code does not run.
func TestFullPrimitive(t *testing.T) {
	for _, x := range []struct {
		prim int
		self api.Val
		args []api.Val
	}{
		{26, obj(api.ClassArray), nil}, {27, obj(api.ClassArray), []api.Val{num(2)}}, {29, obj(api.ClassClass), nil}, {30, none, nil},
		{33, obj(api.ClassClass), nil}, {34, none, []api.Val{none}}, {52, none, []api.Val{num(1)}}, {50, none, nil},
	} {
		w := start.World()
		name := kit.Bytes(&w, api.ClassName, "n")
		method := kit.Method(&w, len(x.args), len(x.args), x.prim, kit.Code("int 1"))
		dict := kit.Plain(&w, api.ClassArray, obj(name), obj(method))
		root := kit.Class(&w, 0, dict, 0, api.Plain)
		for class := api.ClassNil; class <= api.ClassPoint; class++ {
			w.L[class].F[0] = obj(root)
		}
		main := kit.Method(&w, 0, 0, 0, kit.Code("send 0 "+string([]byte{byte('0' + len(x.args))})), obj(name))
		f := kit.Frame(&w, 0, main, none, append([]api.Val{x.self}, x.args...)...)
		w.R.Proc, w.R.Frame = kit.Proc(&w, f, 1), f
		if x.prim == 34 {
			w.L[f].F[6], w.L[f].F[7] = obj(kit.Plain(&w, api.ClassPoint, num(1), num(2))), obj(kit.Plain(&w, api.ClassPoint, num(1), num(2)))
		}
		if x.prim == 52 || x.prim == 50 {
			w.L[f].F[6] = obj(kit.Block(&w, f, 0, 0, 0))
		}
		rooms := []int{0, 1, 2}
		if x.prim == 52 {
			rooms = []int{0, 24, 25, 29}
		}
		for _, room := range rooms {
			m := made(t, w, size(w)+room, 5)
			if m.Step() != api.Full || m.Heap().Field(m.Regs().Frame, 2) != word.Int(1+len(x.args)) {
				t.Errorf("primitive %d with %d words more: how %d", x.prim, room, m.Regs().How)
			}
		}
		m := made(t, w, size(w)+200, 5)
		if m.Step() != api.Runs {
			t.Errorf("primitive %d with room: how %d", x.prim, m.Regs().How)
		}
	}
}

// P23.1, T3: what is made and lost is used again; a dead thing is no object behind its turn.
func TestUsedAgain(t *testing.T) {
	w := looped("array 0, array 1, pop")
	m := made(t, w, size(w)+3*7, 5)
	for range 400 {
		m.Step()
		m.Work(60)
	}
	if m.Regs().How != api.Runs {
		t.Errorf("how %d", m.Regs().How)
	}
	for m.Phase() != api.Idle {
		m.Work(1)
	}
	for {
		m.Work(1)
		if m.Phase() == api.Idle {
			break
		}
	}
	c, _ := m.World()
	if used, _ := m.Heap().Words(); used != size(c) {
		t.Errorf("%d words, not %d", used, size(c))
	}
	w = looped("int 1, pop")
	lost := kit.Plain(&w, api.ClassArray)
	m = made(t, w, 1000, 50)
	at := m.At(lost + 1)
	for m.Phase() != api.Sweep {
		if m.At(lost+1) != at || !m.Heap().Has(at) {
			t.Fatal("it is gone too soon")
		}
		m.Work(1)
	}
	if m.At(lost+1) != 0 {
		t.Error("it is not dead")
	}
	for range lost + 1 {
		m.Work(1)
	}
	if m.Heap().Has(at) || m.Phase() != api.Idle {
		t.Error("it is an object still")
	}
}

// both are a machine of each kind, of one world.
type both struct {
	ideal *ideal.Machine
	real  *real.Machine
}

// same tells that both have done the same.
func (b both) same(t *testing.T) {
	t.Helper()
	x, y := b.ideal.Mem().Regs(), b.real.Regs()
	if x.How != y.How || x.Out != y.Out || x.In != y.In || x.Exit != y.Exit || !slices.Equal(x.Snaps, y.Snaps) || b.ideal.Phase() != b.real.Phase() {
		t.Fatalf("\n%v\n%v", x, y)
	}
	w, ok := b.real.World()
	if !ok || !reach.Same(w, b.ideal.World()) {
		t.Fatal("not the same world")
	}
	mem := b.ideal.Mem()
	for id, x := range b.ideal.World().L { // what nothing leads to any more, too
		at := b.real.At(x.Hash)
		if mem.Has(id) != (at != 0) {
			t.Fatalf("thing %d is at %d", id, at)
		}
		if colour, final := b.real.Heap().Mark(at); at != 0 && (colour != mem.Colour(id) || final != x.Final || b.real.Heap().Fmt(at) != x.Fmt) {
			t.Fatalf("thing %d has colour %d, %v", id, colour, final)
		}
	}
}

// P23.2, T1: until Full it does what ideal's machine does, at each step and each unit.
func TestSame(t *testing.T) {
	hows := [5]int{}
	for seed := range 60 {
		r := rand.New(rand.NewSource(int64(seed)))
		w := kit.Program(r.Intn)
		words, most := size(w)+300+r.Intn(3000), 1+r.Intn(20)
		a, _ := ideal.New(w, most)
		b := both{a, made(t, w, words, most)}
		for n := range 900 {
			switch r.Intn(16) {
			case 0:
				b.ideal.Tick()
				b.real.Tick()
			case 1:
				if b.ideal.Input("ab") != b.real.Input("ab") {
					t.Fatal("Input")
				}
			case 2, 3, 4, 5, 6, 7:
				budget := r.Intn(12)
				if b.ideal.Work(budget) != b.real.Work(budget) {
					t.Fatal("Work")
				}
			default:
				if how := b.ideal.Step(); b.real.Step() != how && b.real.Regs().How != api.Full {
					t.Fatal("Step")
				}
			}
			if b.real.Regs().How == api.Full {
				break
			}
			if n%7 == 0 || n > 700 {
				b.same(t)
			}
		}
		hows[b.real.Regs().How]++
	}
	if hows[api.Runs] < 15 || hows[api.Full] < 5 {
		t.Errorf("how they went: %v", hows)
	}
}

// T3: behind a whole collection the words that are not free are those of what can be come to.
func TestProgress(t *testing.T) {
	for seed := range 60 {
		r := rand.New(rand.NewSource(int64(seed)))
		w := kit.Program(r.Intn)
		m := made(t, w, 20000, 1+r.Intn(20))
		for range 600 {
			m.Step()
			m.Work(r.Intn(4))
		}
		if m.Regs().How != api.Runs {
			continue
		}
		for m.Phase() != api.Idle {
			m.Work(1)
		}
		for range 2 { // what was due is lost in the second one at the latest, but where it is due still
			m.Work(1)
			for m.Phase() != api.Idle {
				m.Work(1)
			}
		}
		c, ok := m.World()
		if used, _ := m.Heap().Words(); !ok || used != size(c) {
			t.Errorf("%d words, not %d", used, size(c))
		}
	}
}

// T4: run on from a snapshot, the same is told.
func TestResume(t *testing.T) {
	resumed := 0
	for seed := range 60 {
		r := rand.New(rand.NewSource(int64(seed)))
		m := made(t, kit.Program(r.Intn), 30000, 5)
		for range 300 {
			m.Step()
		}
		m.Work(1)
		for m.Phase() != api.Idle { // what is lost is told by primitives 29 and 30, and due, until it is dead
			m.Work(1)
		}
		c, ok := m.World()
		if !ok || m.Regs().How != api.Runs {
			continue
		}
		b, err := image.Put(c)
		if err != api.OK {
			continue
		}
		again, err := image.Get(b)
		if err != api.OK {
			t.Fatalf("error %d", err)
		}
		again.R.Out, again.R.In, again.R.How, again.R.Exit, again.R.Snaps = c.R.Out, c.R.In, c.R.How, c.R.Exit, c.R.Snaps
		n := made(t, again, 30000, 5)
		for range 300 {
			units := r.Intn(4)
			if m.Step() != n.Step() || m.Work(units) != n.Work(units) || m.Phase() != n.Phase() {
				t.Fatal("Step")
			}
		}
		x, ok := m.World()
		y, ok1 := n.World()
		if !ok || !ok1 || !reach.Same(x, y) {
			t.Fatal("not the same")
		}
		resumed++
	}
	if resumed < 20 {
		t.Errorf("only %d", resumed)
	}
}

// P23.1: things of other sizes that become one another, wherever there is room.
func TestBecome(t *testing.T) {
	w := start.World()
	name := kit.Bytes(&w, api.ClassName, "n")
	method := kit.Method(&w, 1, 1, 28, kit.Code("self, ret"))
	dict := kit.Plain(&w, api.ClassArray, obj(name), obj(method))
	root := kit.Class(&w, 0, dict, 0, api.Plain)
	for class := api.ClassNil; class <= api.ClassPoint; class++ {
		w.L[class].F[0] = obj(root)
	}
	var lits []api.Val
	lits = append(lits, obj(name))
	n := len(w.L)
	kit.Plain(&w, api.ClassArray, obj(n), obj(n+1), obj(n+2))
	kit.Bytes(&w, api.ClassText, "some bytes that are long")
	kit.Weak(&w, obj(n), obj(n+3), num(4), obj(n+1), obj(n+2))
	kit.Plain(&w, api.ClassArray, obj(n+3))
	w.L[n+1].Final = true
	for i := range 4 {
		lits = append(lits, obj(n+i))
	}
	all := kit.Plain(&w, api.ClassArray, lits[1:]...)
	code := ""
	for i := range 4 {
		for j := range 4 {
			code += "lit " + string([]byte{byte('1' + i)}) + ", lit " + string([]byte{byte('1' + j)}) + ", send 0 1, pop,"
		}
	}
	main := kit.Method(&w, 0, 0, 0, kit.Code(code)[:180], append(lits, obj(all))...)
	f := kit.Frame(&w, 0, main, none)
	w.R.Proc, w.R.Frame = kit.Proc(&w, f, 1), f
	for _, units := range []int{0, 20, 45} {
		m := made(t, w, size(w)+25, 3) // room for one frame: that of a primitive that fails
		a, _ := ideal.New(w, 3)
		b := both{a, m}
		m.Work(units)
		a.Work(units)
		for range 70 {
			a.Step()
			m.Step()
			m.Work(140)
			a.Work(140)
			b.same(t)
		}
		if used, _ := m.Heap().Words(); m.Regs().How == api.Full || used > size(w)+25 {
			t.Errorf("how %d", m.Regs().How)
		}
	}
}
