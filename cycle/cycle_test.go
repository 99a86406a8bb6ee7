package cycle_test

import (
	"math"
	"math/rand"
	"reflect"
	"slices"
	"testing"

	"colloquy/api"
	"colloquy/cycle"
	"colloquy/image"
	"colloquy/kit"
	"colloquy/object"
	"colloquy/reach"
	"colloquy/start"
)

var obj, num, none = kit.Obj, kit.Num, kit.Obj(api.Nil)

func made(t *testing.T, w api.World, most int) *object.Mem {
	t.Helper()
	m, err := object.New(w, most)
	if err != api.OK {
		t.Fatal(err)
	}
	return m
}

func work(t *testing.T, m *object.Mem, budget int) int {
	t.Helper()
	units, due := cycle.Work(m, budget)
	if units != budget {
		t.Fatalf("%d units of %d", units, budget)
	}
	return due
}

// whole does units until the phase is Idle again; how many, and how many things became due.
func whole(t *testing.T, m *object.Mem) (int, int) {
	units, due := 0, 0
	for units == 0 || m.Phase() != api.Idle {
		due += work(t, m, 1)
		units++
	}
	return units, due
}

func colours(m *object.Mem) []int {
	var l []int
	for id := range m.Len() {
		l = append(l, m.Colour(id))
	}
	return l
}

// P11.1: how many units.
func TestBudget(t *testing.T) {
	for _, x := range [][2]int{{0, 0}, {-1, 0}, {math.MinInt, 0}, {1, 1}, {500, 500}, {api.MaxSteps, api.MaxSteps}, {api.MaxSteps + 1, api.MaxSteps}, {math.MaxInt, api.MaxSteps}} {
		m := made(t, start.World(), 50)
		if units, due := cycle.Work(m, x[0]); units != x[1] || due != 0 {
			t.Errorf("Work(%d): %d, %d", x[0], units, due)
		}
		one := made(t, start.World(), 50)
		for range x[1] {
			cycle.Work(one, 1)
		}
		if m.Phase() != one.Phase() || !slices.Equal(colours(m), colours(one)) {
			t.Errorf("Work(%d) is not as many times one", x[0])
		}
	}
}

// P11.1: the units of the first world, one by one.
func TestUnits(t *testing.T) {
	m := made(t, start.World(), 50)
	work(t, m, 1)
	if m.Phase() != api.Marks || !slices.Equal(colours(m), slices.Repeat([]int{1}, 23)) {
		t.Fatalf("Idle: %v", colours(m))
	}
	for n := 22; n >= 0; n-- { // the last one pushed first
		work(t, m, 1)
		want := append(slices.Repeat([]int{1}, n), slices.Repeat([]int{2}, 23-n)...)
		if m.Phase() != api.Marks || !slices.Equal(colours(m), want) {
			t.Fatalf("Marks: %v", colours(m))
		}
	}
	work(t, m, 1)
	if m.Phase() != api.Sweep || !slices.Equal(colours(m), slices.Repeat([]int{2}, 23)) {
		t.Fatalf("the end: %v", colours(m))
	}
	for n := range 23 {
		if m.Phase() != api.Sweep {
			t.Fatalf("phase %d in the middle", m.Phase())
		}
		work(t, m, 1)
		want := append(slices.Repeat([]int{0}, n+1), slices.Repeat([]int{2}, 22-n)...)
		if !slices.Equal(colours(m), want) {
			t.Fatalf("Sweep: %v", colours(m))
		}
	}
	if m.Phase() != api.Idle {
		t.Fatal("not Idle behind the last one")
	}
	work(t, m, 1)
	if m.Phase() != api.Marks {
		t.Fatal("the next one begins a collection")
	}
}

// P11.1: a stack of one place.
func TestOverflow(t *testing.T) {
	m := made(t, start.World(), 1)
	work(t, m, 1)
	for n := range 23 {
		work(t, m, 1) // a scan, from the lowest place on
		want := append(slices.Repeat([]int{2}, n+1), slices.Repeat([]int{1}, 22-n)...)
		if !slices.Equal(colours(m), want) {
			t.Fatalf("scan %d: %v", n, colours(m))
		}
		if n == 22 {
			break
		}
		work(t, m, 1) // pushed again
		if m.Phase() != api.Marks || !slices.Equal(colours(m), want) {
			t.Fatalf("pushed again %d: %v", n, colours(m))
		}
	}
	work(t, m, 1)
	if m.Phase() != api.Sweep {
		t.Fatal("not over behind the last one")
	}
}

// P11.1: classes first, then fields from the first on; of Weak things the class alone.
func TestScan(t *testing.T) {
	w := start.World()
	for range 4 {
		kit.Plain(&w, api.ClassArray) // 23 to 26
	}
	class := kit.Class(&w, 26, 0, 0, api.Plain) // 27
	w.L[class].F[2] = obj(25)
	kit.Plain(&w, class, num(3), obj(23), num(4), obj(24), obj(23)) // 28
	weak := kit.Class(&w, 0, 0, 0, api.Weak)                        // 29
	kit.Add(&w, api.Thing{Class: weak, Fmt: api.Weak, F: []api.Val{obj(23)}})
	w.R.Ready = []int{30, 28}
	m := made(t, w, 50)
	work(t, m, 2)
	if got := colours(m)[23:]; !slices.Equal(got, []int{1, 1, 0, 0, 1, 2, 0, 1}) {
		t.Fatalf("scanned: %v", got)
	}
	work(t, m, 1)
	if got := colours(m)[23:]; got[1] != 2 || got[0] != 1 {
		t.Fatalf("the last field first: %v", got)
	}
	work(t, m, 1)
	if got := colours(m)[23:]; got[0] != 2 || got[4] != 1 {
		t.Fatalf("then the one ahead of it: %v", got)
	}
	work(t, m, 1)
	if got := colours(m)[23:]; !slices.Equal(got, []int{2, 2, 1, 1, 2, 2, 0, 1}) {
		t.Fatalf("then the class: %v", got)
	}
	work(t, m, 3)
	if got := colours(m)[23:]; !slices.Equal(got, []int{2, 2, 2, 2, 2, 2, 1, 2}) {
		t.Fatalf("then the Weak one: %v", got)
	}
}

// P11.1: what is not Grey when it is popped takes a unit, and does nothing.
func TestNotGrey(t *testing.T) {
	w := start.World()
	kit.Plain(&w, api.ClassArray, num(1)) // 23
	kit.Plain(&w, api.ClassArray, num(2)) // 24
	w.R.Due = []int{23}
	m := made(t, w, 50)
	m.Shade(24)
	m.Shade(23)
	if !slices.Equal(colours(m)[22:], []int{0, 1, 1}) || m.Phase() != api.Idle {
		t.Fatal("shaded while Idle")
	}
	work(t, m, 1)
	if units, _ := whole(t, m); units != 25+1+25 {
		t.Errorf("%d units", units)
	}
	m = made(t, w, 50)
	work(t, m, 1)    // 23 is Grey, on top
	work(t, m, 1)    // 23 is Black
	m.Become(24, 23) // refused: it is due
	if m.Colour(24) != 0 {
		t.Fatal("Become of what is due")
	}
	r := m.Regs()
	r.Due = nil
	m.SetRegs(r)
	m.Become(24, 23)
	if m.Colour(23) != 1 || m.Colour(24) != 1 {
		t.Fatal("Become")
	}
	if units, _ := whole(t, m); units != 2+23+1+25 {
		t.Errorf("%d units", units)
	}
}

// P11.1: Weak things' fields, and what is due.
func TestWeakAndFinal(t *testing.T) {
	w := start.World()
	kit.Plain(&w, api.ClassArray)                            // 23: in a Weak one alone
	kit.Plain(&w, api.ClassArray)                            // 24: kept
	kit.Weak(&w, obj(23), obj(24), num(5), obj(27))          // 25: kept
	kit.Plain(&w, api.ClassArray)                            // 26: in a Final one alone
	kit.Plain(&w, api.ClassArray, obj(26), obj(28))          // 27: Final
	kit.Plain(&w, api.ClassArray)                            // 28: Final, in a Final one
	kit.Weak(&w, obj(26), obj(30), obj(23))                  // 29: Weak, in a Final one
	kit.Plain(&w, api.ClassArray, obj(29))                   // 30: Final
	kit.Plain(&w, api.ClassArray)                            // 31: Final, kept
	kit.Weak(&w, obj(24), obj(23))                           // 32: Weak, not kept
	kit.Plain(&w, api.ClassArray, obj(24), obj(31), obj(25)) // 33: the frame
	for _, at := range []int{27, 28, 30, 31} {
		w.L[at].Final = true
	}
	w.R.Frame = 33
	w.R.Due = []int{24}
	before := image.Copy(w)
	m := made(t, w, 50)
	for m.Phase() != api.Sweep {
		if due := work(t, m, 1); due != 0 && m.Phase() != api.Sweep || m.Phase() == api.Sweep && due != 3 {
			t.Fatalf("%d due", due)
		}
	}
	if got := m.Regs().Due; !slices.Equal(got, []int{24, 27, 28, 30}) {
		t.Errorf("due %v", got)
	}
	for _, id := range []int{23, 32} {
		if m.Has(id) {
			t.Errorf("%d is not dead", id)
		}
		if !reflect.DeepEqual(m.World().L[id], before.L[id]) {
			t.Errorf("the dead thing %d is turned", id)
		}
	}
	for _, id := range []int{24, 25, 26, 27, 28, 29, 30, 31, 33} {
		if !m.Has(id) || m.Colour(id) != 2 {
			t.Errorf("%d: %v, colour %d", id, m.Has(id), m.Colour(id))
		}
		if m.Thing(id).Final != (id == 31) {
			t.Errorf("%d is Final: %v", id, id != 31)
		}
	}
	// 25 lost 27 ahead of its being due; 29 was told of behind it: what is due by then stays
	if got := m.Thing(25).F; !slices.Equal(got, []api.Val{none, obj(24), num(5), none}) {
		t.Errorf("25 has %v", got)
	}
	if got := m.Thing(29).F; !slices.Equal(got, []api.Val{obj(26), obj(30), none}) {
		t.Errorf("29 has %v", got)
	}
	if !image.Check(m.World()) {
		t.Error("no image any more")
	}
}

// P11.1: the roots are looked at once more in the end: what registers have taken meanwhile, and what that leads to, stays.
func TestLateRoots(t *testing.T) {
	for i, late := range []api.Regs{{Proc: 24}, {Frame: 24}, {Ready: []int{24}}, {Wait: []api.Wait{{Sema: 24, Proc: 25}}}, {Wait: []api.Wait{{Sema: 25, Proc: 24}}}, {Due: []int{24}}} {
		w := start.World()
		kit.Plain(&w, api.ClassArray)          // 23
		kit.Plain(&w, api.ClassArray, obj(23)) // 24
		kit.Plain(&w, api.ClassArray, obj(24)) // 25
		kit.Weak(&w, obj(23), obj(24))         // 26
		w.R.Frame = 25
		w.R.Due = []int{26}
		m := made(t, w, 50)
		work(t, m, 1)
		late.Due = append(late.Due, 26)
		m.SetRegs(late)
		m.Set(25, 0, none)
		if m.Colour(24) != 0 || m.Colour(23) != 0 {
			t.Fatal("shaded already")
		}
		for m.Phase() == api.Marks {
			work(t, m, 1)
		}
		if !m.Has(24) || !m.Has(23) || m.Get(26, 0) != obj(23) || m.Get(26, 1) != obj(24) {
			t.Errorf("registers %d: lost", i)
		}
	}
}

// P11.1: what is swept; what is made meanwhile is not.
func TestSweep(t *testing.T) {
	w := start.World()
	kit.Plain(&w, api.ClassArray) // 23: lost
	kit.Plain(&w, api.ClassArray) // 24: dead from the beginning
	kit.Plain(&w, api.ClassArray) // 25: kept
	w.Dead = make([]bool, len(w.L))
	w.Dead[24] = true
	w.R.Due = []int{25}
	m := made(t, w, 50)
	for m.Phase() != api.Sweep {
		work(t, m, 1)
	}
	if m.Has(23) || m.Has(24) || !m.Has(25) {
		t.Fatal("dead")
	}
	id, _ := m.Make(api.ClassArray, 0)
	if m.Colour(id) != 0 {
		t.Error("made while it sweeps")
	}
	if units, _ := whole(t, m); units != 25 { // 0 to 23, and 25
		t.Errorf("%d units", units)
	}
	if !slices.Equal(m.World().Dead[23:], []bool{true, true, false, false}) {
		t.Error("dead")
	}
	work(t, m, 1)
	for m.Phase() != api.Sweep {
		work(t, m, 1)
	}
	if m.Has(id) {
		t.Error("what was made and lost is not dead")
	}
	if units, _ := whole(t, m); units != 25 { // 0 to 22, 25 and the new one
		t.Errorf("%d units", units)
	}
}

// P11.2: whole collections.
func TestWhole(t *testing.T) {
	m := made(t, start.World(), 50)
	if n := cycle.Whole(m); n != 48 || m.Phase() != api.Idle {
		t.Errorf("%d units", n)
	}
	if n := cycle.Whole(m); n != 48 || m.Phase() != api.Idle {
		t.Errorf("begun anew: %d units", n)
	}
	for done := 1; done < 48; done++ {
		work(t, m, done)
		if n := cycle.Whole(m); n != 48-done || m.Phase() != api.Idle {
			t.Fatalf("behind %d: %d units", done, n)
		}
	}
	if n := cycle.Whole(made(t, start.World(), 1)); n != 70 {
		t.Errorf("with a stack of one: %d units", n)
	}
}

// turn does something to a world; it ends in an image.
func turn(r *rand.Rand, m *object.Mem) {
	some := func() int { return r.Intn(m.Len()) }
	v := num(r.Intn(5))
	if r.Intn(3) > 0 {
		v = obj(some())
	}
	switch r.Intn(7) {
	case 0, 1:
		m.Set(some(), r.Intn(6), v)
	case 2:
		m.Make(some(), r.Intn(4))
	case 3:
		m.Become(some(), some())
	case 4:
		m.Watch(some())
	case 5:
		m.Of(some())
		m.Owners(some())
	case 6: // what leads to nothing is not reached by a program: registers take what is there already
		x := m.Regs()
		strong := reach.Strong(m.World())
		if id := some(); strong[id] {
			x.Frame = id
			m.SetRegs(x)
		}
	}
}

// P11.3, T2: what is strongly come to is never dead, and no Black one has a White one.
func TestSafe(t *testing.T) {
	r := rand.New(rand.NewSource(11))
	for range 150 {
		m := made(t, kit.Any(r.Intn, r.Intn(25)), 1+r.Intn(6))
		for range 150 {
			strong := reach.Strong(m.World())
			due, phase := m.Regs().Due, m.Phase()
			before := m.World()
			if r.Intn(2) == 0 {
				cycle.Work(m, 1)
				after := m.World()
				for id := range strong {
					if strong[id] && !m.Has(id) {
						t.Fatal("a strong one is dead")
					}
				}
				for _, id := range m.Regs().Due[len(due):] {
					if strong[id] || phase != api.Marks || before.L[id].Final == after.L[id].Final {
						t.Fatal("a strong one is due")
					}
				}
				for id, x := range after.L {
					for i, v := range x.F {
						if old := before.L[id].F[i]; v != old && (x.Fmt != api.Weak || v != none || strong[old.N]) {
							t.Fatal("a strong one is lost")
						}
					}
				}
			} else {
				turn(r, m)
			}
			w := m.World()
			if !image.Check(w) {
				t.Fatal("no image any more")
			}
			for id, x := range w.L {
				if m.Phase() != api.Marks || m.Colour(id) != 2 || x.Fmt == api.Weak {
					continue
				}
				if m.Colour(x.Class) == 0 || slices.ContainsFunc(x.F, func(v api.Val) bool { return v.Obj && m.Colour(v.N) == 0 }) {
					t.Fatal("a Black one has a White one")
				}
			}
		}
	}
}

// P11.3, T3: what nothing led to when a collection began is dead when it ends.
func TestProgress(t *testing.T) {
	r := rand.New(rand.NewSource(12))
	dead := 0
	for range 200 {
		m := made(t, kit.Any(r.Intn, r.Intn(40)), 1+r.Intn(6))
		w := m.World()
		x := image.Copy(w) // with all that is Final as a root, too
		for id := range w.L {
			if w.L[id].Final && id > 0 && !slices.Contains(x.R.Due, id) {
				x.R.Due = append(x.R.Due, id)
			}
		}
		all := reach.All(x)
		cycle.Whole(m)
		for id := range w.L {
			if !all[id] && m.Has(id) {
				t.Fatal("something is not dead")
			}
			if !m.Has(id) {
				dead++
			}
			if m.Colour(id) != 0 {
				t.Fatal("something is not White")
			}
		}
		w = m.World()
		strong, all := reach.Strong(w), reach.All(w)
		for id := range w.L {
			if strong[id] != all[id] || strong[id] != m.Has(id) {
				t.Fatal("something is there that nothing leads to")
			}
		}
	}
	if dead < 100 {
		t.Errorf("only %d dead", dead)
	}
}

// T3: whatever the stack has room for, the same is dead in the end.
func TestAnyStack(t *testing.T) {
	r := rand.New(rand.NewSource(13))
	for range 60 {
		w := kit.Any(r.Intn, r.Intn(60))
		a, b := made(t, w, 1), made(t, w, 100)
		if cycle.Whole(a) < cycle.Whole(b) {
			t.Fatal("fewer units with a smaller stack")
		}
		if !reflect.DeepEqual(a.World(), b.World()) {
			t.Fatal("other worlds")
		}
	}
}
