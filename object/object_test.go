package object_test

import (
	"math"
	"math/rand"
	"reflect"
	"slices"
	"strings"
	"testing"

	"colloquy/api"
	"colloquy/cycle"
	"colloquy/image"
	"colloquy/kit"
	"colloquy/object"
	"colloquy/reach"
	"colloquy/start"
)

var obj, num, none = kit.Obj, kit.Num, kit.Obj(api.Nil)

var wild = []int{-1, math.MaxInt, math.MinInt}

func made(t *testing.T, w api.World, most int) *object.Mem {
	t.Helper()
	m, err := object.New(w, most)
	if err != api.OK {
		t.Fatal(err)
	}
	return m
}

// small has one thing of each format behind a class of its own.
func small() api.World {
	w := start.World()
	kit.Class(&w, 0, 0, 2, api.Plain)            // 23
	kit.Plain(&w, 23, num(4), obj(26))           // 24
	kit.Weak(&w, obj(24))                        // 25
	kit.Bytes(&w, api.ClassText, "abc")          // 26
	kit.Plain(&w, api.ClassArray, obj(26), none) // 27
	kit.Plain(&w, api.ClassArray)                // 28: dead
	w.Dead = make([]bool, len(w.L))
	w.Dead[28] = true
	w.L[26].Final = true
	w.Last = 50
	return w
}

// P10.1: what a new one has.
func TestNew(t *testing.T) {
	bad := start.World()
	bad.L[3].Class = 4
	for _, w := range []api.World{bad, {}} {
		if m, err := object.New(w, 5); m != nil || err != api.ErrImage {
			t.Error("of what may not be")
		}
	}
	w := small()
	w.R = api.Regs{Proc: 24, Frame: 25, Ready: []int{26}, Wait: []api.Wait{{Sema: 22, Proc: 27}}, Due: []int{27}, Out: "o", In: "i", How: 2, Exit: 3, Snaps: []string{"s"}}
	m := made(t, w, 5)
	if !reflect.DeepEqual(m.World(), image.Copy(w)) {
		t.Errorf("another world\n%v\n%v", m.World(), w)
	}
	if m.Phase() != api.Idle || m.Len() != 29 {
		t.Error("phase, or how many")
	}
	for id := range 29 {
		if m.Has(id) != (id != 28) || m.Colour(id) != 0 {
			t.Errorf("thing %d", id)
		}
		want := w.L[id]
		if id == 28 {
			want = api.Thing{}
		}
		if !reflect.DeepEqual(m.Thing(id), want) {
			t.Errorf("thing %d is %v", id, m.Thing(id))
		}
	}
	if !reflect.DeepEqual(m.Regs(), w.R) {
		t.Error("registers")
	}
}

// R3: what is handed in is not kept, what is answered is not either.
func TestNewMemory(t *testing.T) {
	w := small()
	w.R = api.Regs{Ready: []int{26}, Wait: []api.Wait{{Sema: 22, Proc: 27}}, Due: []int{27}, Snaps: []string{"s"}}
	m, other := made(t, w, 5), made(t, w, 5)
	want := m.World()
	spoil := func(w api.World) {
		for i := range w.L {
			clear(w.L[i].F)
		}
		clear(w.L)
		clear(w.Dead)
		clear(w.R.Ready)
		clear(w.R.Wait)
		clear(w.R.Due)
		clear(w.R.Snaps)
	}
	spoil(w)
	spoil(m.World())
	clear(m.Thing(24).F)
	r := m.Regs()
	clear(r.Ready)
	clear(r.Due)
	r = m.Regs()
	if !m.SetRegs(r) {
		t.Fatal("SetRegs")
	}
	clear(r.Ready)
	clear(r.Wait)
	clear(r.Snaps)
	m.Of(23)[0] = 0
	m.Owners(26)[0] = 0
	if !reflect.DeepEqual(m.World(), want) {
		t.Error("turned")
	}
	m.Set(24, 0, num(77))
	if other.Get(24, 0) != num(4) {
		t.Error("two have something in common")
	}
}

// P10.1: registers, as image's Check would say.
func TestSetRegs(t *testing.T) {
	r := rand.New(rand.NewSource(1))
	yes := 0
	for range 1000 {
		w := small()
		m := made(t, w, 5)
		regs := api.Regs{How: r.Intn(7) - 1, Exit: r.Intn(300) - 10}
		some := func() int { return r.Intn(33) - 2 }
		regs.Proc, regs.Frame = some(), some()
		for range r.Intn(3) {
			regs.Ready = append(regs.Ready, some())
			regs.Due = append(regs.Due, some())
		}
		for range r.Intn(2) {
			regs.Wait = append(regs.Wait, api.Wait{Sema: some(), Proc: some()})
		}
		switch r.Intn(20) {
		case 0:
			regs.Out = strings.Repeat("x", api.MaxText+r.Intn(2))
		case 1:
			regs.In = strings.Repeat("x", api.MaxText+r.Intn(2))
		case 2:
			regs.Snaps = slices.Repeat([]string{"x"}, api.MaxQueue+r.Intn(2))
		case 3:
			regs.Snaps = []string{strings.Repeat("x", api.MaxFile+r.Intn(2))}
		case 4:
			regs.Ready = slices.Repeat([]int{24}, api.MaxQueue+r.Intn(2))
		case 5:
			regs.Wait = slices.Repeat([]api.Wait{{Sema: 22, Proc: 24}}, api.MaxQueue+r.Intn(2))
		}
		w.R = regs
		want := image.Check(w)
		if m.SetRegs(regs) != want {
			t.Fatalf("SetRegs is %v of %v", !want, regs)
		}
		if want {
			yes++
			if !reflect.DeepEqual(m.Regs(), regs) {
				t.Fatal("other registers")
			}
		} else if !reflect.DeepEqual(m.Regs(), small().R) {
			t.Fatal("a refused call has turned something")
		}
	}
	if yes < 50 {
		t.Errorf("only %d times yes", yes)
	}
}

// P10.2: of what there is not.
func TestNone(t *testing.T) {
	m := made(t, small(), 5)
	want := m.World()
	for _, id := range append(wild, 28, 29) {
		if m.Has(id) || !reflect.DeepEqual(m.Thing(id), api.Thing{}) || m.Get(id, 0) != (api.Val{}) || m.Set(id, 0, num(1)) || m.Byte(id, 0) != -1 || m.SetByte(id, 0, 1) {
			t.Errorf("a thing %d", id)
		}
		if m.Of(id) != nil || m.Owners(id) != nil || m.Watch(id) || m.Colour(id) != 0 || m.Become(id, 24) || m.Become(24, id) {
			t.Errorf("a thing %d", id)
		}
		if at, ok := m.Make(id, 0); at != 0 || ok {
			t.Errorf("an instance of %d", id)
		}
		m.Shade(id)
	}
	if !reflect.DeepEqual(m.World(), want) {
		t.Error("turned")
	}
}

// P10.2: fields of Plain and Weak.
func TestFields(t *testing.T) {
	m := made(t, small(), 5)
	if m.Get(24, 0) != num(4) || m.Get(24, 1) != obj(26) || m.Get(25, 0) != obj(24) {
		t.Error("Get")
	}
	for _, i := range append(wild, 2) {
		if m.Get(24, i) != (api.Val{}) || m.Set(24, i, num(1)) || m.Byte(26, i+1) != -1 && i == 2 || m.SetByte(26, i+1, 1) && i == 2 {
			t.Errorf("field %d", i)
		}
	}
	if m.Get(26, 0) != (api.Val{}) || m.Set(26, 0, num(1)) {
		t.Error("a field of Bytes")
	}
	for _, v := range []api.Val{num(api.MaxInt), num(-api.MaxInt - 1), num(math.MaxInt), obj(28), obj(29), obj(-1), obj(math.MinInt)} {
		if m.Set(24, 0, v) || m.Set(25, 0, v) || m.Get(24, 0) != num(4) {
			t.Errorf("%v is set", v)
		}
	}
	for _, v := range []api.Val{num(api.MaxInt - 1), num(-api.MaxInt), obj(0), obj(27)} {
		if !m.Set(24, 0, v) || m.Get(24, 0) != v || m.Get(24, 1) != obj(26) || !m.Set(25, 0, v) || m.Get(25, 0) != v {
			t.Errorf("%v is not set", v)
		}
	}
	if !m.Set(api.SemaDue, 0, num(3)) {
		t.Error("a field of a first thing")
	}
}

// P10.2: bytes of Bytes.
func TestBytes(t *testing.T) {
	m := made(t, small(), 5)
	for _, i := range append(wild, 3) {
		if m.Byte(26, i) != -1 || m.SetByte(26, i, 1) {
			t.Errorf("byte %d", i)
		}
	}
	if m.Byte(24, 0) != -1 || m.SetByte(24, 0, 1) || m.Byte(25, 0) != -1 || m.SetByte(25, 0, 1) {
		t.Error("a byte of what has fields")
	}
	for i, v := range []int{256 + 'x', -1, math.MinInt} {
		if !m.SetByte(26, i, v) {
			t.Errorf("byte %d is not set", i)
		}
	}
	if m.Byte(26, 0) != 'x' || m.Byte(26, 1) != 255 || m.Byte(26, 2) != 0 || m.Thing(26).B != "x\xff\x00" {
		t.Errorf("bytes %q", m.Thing(26).B)
	}
}

// P10.2: a class stays one.
func TestClassStays(t *testing.T) {
	m := made(t, small(), 5)
	for _, x := range []struct {
		i  int
		v  api.Val
		ok bool
	}{
		{3, num(-1), false}, {3, num(api.MaxFields + 1), false}, {3, obj(1), false},
		{4, num(0), false}, {4, num(4), false}, {4, obj(1), false},
		{3, num(api.MaxFields), true}, {3, num(0), true}, {4, num(api.Bytes), true}, {4, num(api.Plain), true},
		{0, num(5), true}, {1, num(5), true}, {2, obj(24), true},
	} {
		old := m.Get(23, x.i)
		if m.Set(23, x.i, x.v) != x.ok || m.Get(23, x.i) != x.v && x.ok || m.Get(23, x.i) != old && !x.ok {
			t.Errorf("field %d of a class: %v", x.i, x.v)
		}
	}
	// what is no class yet may have anything
	kitWorld := small()
	kit.Plain(&kitWorld, api.ClassArray, none, none, none, num(0), none) // 29
	kitWorld.L[28].Hash = 49
	kitWorld.Last = kitWorld.L[29].Hash
	m = made(t, kitWorld, 5)
	if !m.Set(29, 3, none) || !m.Set(29, 3, num(1)) || !m.Set(29, 4, num(1)) || m.Set(29, 4, num(7)) || m.Set(29, 3, none) {
		t.Error("a thing that comes to be a class")
	}
}

// P10.3: instances.
func TestMake(t *testing.T) {
	w := small()
	m := made(t, w, 5)
	id, ok := m.Make(23, 1)
	if want := (api.Thing{Class: 23, Fmt: api.Plain, Hash: 51, F: []api.Val{none, none, none}}); id != 29 || !ok || !reflect.DeepEqual(m.Thing(id), want) {
		t.Errorf("%d, %v: %v", id, ok, m.Thing(id))
	}
	id, ok = m.Make(api.ClassArray, 3)
	if want := (api.Thing{Class: api.ClassArray, Fmt: api.Plain, Hash: 52, F: []api.Val{none, none, none}}); id != 30 || !ok || !reflect.DeepEqual(m.Thing(id), want) {
		t.Errorf("%d, %v: %v", id, ok, m.Thing(id))
	}
	id, ok = m.Make(api.ClassText, 2)
	if want := (api.Thing{Class: api.ClassText, Fmt: api.Bytes, Hash: 53, B: "\x00\x00"}); id != 31 || !ok || !reflect.DeepEqual(m.Thing(id), want) {
		t.Errorf("%d, %v: %v", id, ok, m.Thing(id))
	}
	id, ok = m.Make(api.ClassWeak, 0)
	if want := (api.Thing{Class: api.ClassWeak, Fmt: api.Weak, Hash: 54}); id != 32 || !ok || !reflect.DeepEqual(m.Thing(id), want) {
		t.Errorf("%d, %v: %v", id, ok, m.Thing(id))
	}
	m.Set(23, 4, num(api.Bytes)) // asked anew
	if id, ok = m.Make(23, 1); !ok || m.Thing(id).Fmt != api.Bytes || len(m.Thing(id).B) != 1 {
		t.Errorf("%d, %v: %v", id, ok, m.Thing(id))
	}
	if w := m.World(); w.Last != 55 || len(w.L) != 34 || m.Len() != 34 || !image.Check(w) {
		t.Error("the world")
	}
}

// P10.3: what may not be made.
func TestMakeRefused(t *testing.T) {
	m := made(t, small(), 5)
	want := m.World()
	for _, x := range [][2]int{{24, 0}, {0, 0}, {28, 0}, {23, -1}, {23, math.MinInt}, {23, api.MaxFields - 1}, {23, math.MaxInt}, {api.ClassArray, api.MaxFields + 1}, {api.ClassText, api.MaxBytes + 1}, {api.ClassText, math.MaxInt}, {api.ClassWeak, api.MaxFields + 1}} {
		if id, ok := m.Make(x[0], x[1]); id != 0 || ok {
			t.Errorf("Make(%d, %d) is %d", x[0], x[1], id)
		}
	}
	if !reflect.DeepEqual(m.World(), want) {
		t.Error("a refused call has turned something")
	}
	for _, x := range [][2]int{{23, api.MaxFields - 2}, {api.ClassArray, api.MaxFields}, {api.ClassText, api.MaxBytes}} {
		if _, ok := m.Make(x[0], x[1]); !ok {
			t.Errorf("Make(%d, %d)", x[0], x[1])
		}
	}
	m.Set(23, 3, num(7))
	m.Set(23, 4, num(api.Bytes))
	if _, ok := m.Make(23, api.MaxBytes); !ok {
		t.Error("a Bytes class has no bytes of its own")
	}
	w := small()
	w.Last = api.MaxObjects - 1
	m = made(t, w, 5)
	if id, ok := m.Make(23, 0); !ok || m.Thing(id).Hash != api.MaxObjects {
		t.Error("the last one")
	}
	if id, ok := m.Make(23, 0); id != 0 || ok || m.Len() != 30 {
		t.Error("one more than there may be")
	}
}

// P10.4: things that become one another.
func TestBecome(t *testing.T) {
	m := made(t, small(), 5)
	a, b := m.Thing(24), m.Thing(26)
	if !m.Become(24, 26) {
		t.Fatal("Become")
	}
	a.Hash, b.Hash = b.Hash, a.Hash
	if !reflect.DeepEqual(m.Thing(26), a) || !reflect.DeepEqual(m.Thing(24), b) || m.Get(25, 0) != obj(24) {
		t.Errorf("%v, %v", m.Thing(24), m.Thing(26))
	}
	if !image.Check(m.World()) || m.Colour(24) != 0 {
		t.Error("the world")
	}
	w := start.World()
	kit.Plain(&w, api.ClassArray, num(1))
	kit.Plain(&w, api.ClassArray, num(2))
	if m = made(t, w, 5); !m.Become(api.Specials, api.Specials+1) || m.Get(api.Specials, 0) != num(2) {
		t.Error("the first thing behind the first ones")
	}
}

// P10.4: what may not become another one.
func TestBecomeRefused(t *testing.T) {
	m := made(t, small(), 5)
	want := m.World()
	for _, x := range [][2]int{{24, 24}, {24, 22}, {0, 24}, {23, 24}, {24, 23}, {24, 28}, {29, 24}} {
		if m.Become(x[0], x[1]) {
			t.Errorf("Become(%d, %d)", x[0], x[1])
		}
	}
	if !reflect.DeepEqual(m.World(), want) {
		t.Error("a refused call has turned something")
	}
	for i, r := range []api.Regs{{Proc: 24}, {Frame: 24}, {Ready: []int{25, 24}}, {Wait: []api.Wait{{Sema: 24, Proc: 25}}}, {Wait: []api.Wait{{Sema: 22, Proc: 25}, {Sema: 22, Proc: 24}}}, {Due: []int{24}}} {
		m.SetRegs(r)
		if m.Become(24, 26) || m.Become(26, 24) {
			t.Errorf("registers %d", i)
		}
		if !m.Become(26, 27) {
			t.Errorf("others, registers %d", i)
		}
	}
}

// P10.4: all of a class, and all that have a thing.
func TestOfAndOwners(t *testing.T) {
	w := small()
	kit.Plain(&w, 23, num(26), none) // 29
	w.L[28].Class = 23
	w.L[28].F = []api.Val{obj(26)}
	w.L[28].Hash, w.L[29].Hash, w.Last = 40, 50, 50
	m := made(t, w, 5)
	if got := m.Of(23); !slices.Equal(got, []int{24, 29}) {
		t.Errorf("of 23: %v", got)
	}
	if got := m.Of(24); len(got) != 0 {
		t.Errorf("of 24: %v", got)
	}
	if got := m.Of(api.ClassWeak); !slices.Equal(got, []int{25}) {
		t.Errorf("of ClassWeak: %v", got)
	}
	if got := m.Owners(26); !slices.Equal(got, []int{24, 27}) {
		t.Errorf("owners of 26: %v", got)
	}
	if got := m.Owners(24); !slices.Equal(got, []int{25}) {
		t.Errorf("owners of 24: %v", got)
	}
	if got := m.Owners(29); len(got) != 0 {
		t.Errorf("owners of 29: %v", got)
	}
	for id := range m.Len() {
		if m.Colour(id) != 0 {
			t.Errorf("%d is shaded", id)
		}
	}
}

// P10.4: what is watched.
func TestWatch(t *testing.T) {
	m := made(t, small(), 5)
	for id := range api.Specials {
		if m.Watch(id) || m.Thing(id).Final {
			t.Errorf("%d is watched", id)
		}
	}
	if !m.Watch(23) || !m.Watch(24) || !m.Watch(26) || !m.Thing(24).Final || !m.Thing(26).Final || m.Thing(25).Final {
		t.Error("Watch")
	}
}

// P10.2: shading.
func TestShade(t *testing.T) {
	m := made(t, small(), 1)
	m.Shade(24)
	m.Shade(24)
	m.Shade(25)
	if m.Colour(24) != 1 || m.Colour(25) != 1 || m.Colour(26) != 0 {
		t.Error("colours")
	}
	if m.Stack().Len() != 1 || !m.Stack().Over() {
		t.Error("the stack")
	}
}

// popped is what is on the stack, the last one pushed first.
func popped(m *object.Mem) []int {
	var l []int
	for {
		id, ok := m.Stack().Pop()
		if !ok {
			return l
		}
		l = append(l, id)
	}
}

// P10.2 to P10.4: what is shaded while a collection marks.
func TestMarks(t *testing.T) {
	m := made(t, small(), 50)
	m.Mark()
	if m.Phase() != api.Marks {
		t.Fatal("phase")
	}
	m.Set(24, 0, obj(27))
	m.Set(25, 0, obj(26))
	m.Set(24, 0, obj(28)) // dead: refused
	m.Set(24, 9, obj(23)) // no field: refused
	m.Set(24, 1, num(23))
	if got := popped(m); !slices.Equal(got, []int{26, 27}) || m.Colour(26) != 1 || m.Colour(27) != 1 || m.Colour(23) != 0 {
		t.Errorf("stored: %v", got)
	}
	id, _ := m.Make(23, 0)
	if got := popped(m); !slices.Equal(got, []int{23}) || m.Colour(id) != 2 || m.Thing(id).Final {
		t.Errorf("made: %v, colour %d", got, m.Colour(id))
	}
	m.Make(24, 0) // no class: refused
	if got := m.Of(23); !slices.Equal(got, []int{24, id}) || m.Colour(24) != 1 || m.Colour(id) != 2 {
		t.Errorf("of 23: %v", got)
	}
	if got := popped(m); !slices.Equal(got, []int{24}) {
		t.Errorf("told: %v", got)
	}
	m.Owners(26)
	if got := popped(m); !slices.Equal(got, []int{25}) || m.Colour(25) != 1 {
		t.Errorf("owners: %v", got)
	}
	m.Become(id, 24) // a Black one and a Grey one
	if got := popped(m); !slices.Equal(got, []int{id}) || m.Colour(id) != 1 || m.Colour(24) != 1 {
		t.Errorf("become: %v", got)
	}
	m.Paint(24, 0)
	m.Paint(25, 2)
	m.Become(24, 25)
	if got := popped(m); !slices.Equal(got, []int{25, 24}) || m.Colour(24) != 1 || m.Colour(25) != 1 {
		t.Errorf("become: %v", got)
	}
	m.Become(24, 24)
	m.Watch(27)
	if m.Colour(27) != 1 || len(popped(m)) != 0 {
		t.Error("watched")
	}
}

// P10.4: in the other phases Become leaves colours.
func TestColoursStay(t *testing.T) {
	m := made(t, small(), 50)
	m.Paint(24, 2)
	if !m.Become(24, 25) || m.Colour(24) != 2 || m.Colour(25) != 0 || len(popped(m)) != 0 {
		t.Error("colours have turned")
	}
	id, _ := m.Make(23, 0)
	m.Set(24, 0, obj(27))
	m.Of(23)
	m.Owners(26)
	if m.Colour(id) != 0 || len(popped(m)) != 0 {
		t.Error("shaded while Idle")
	}
}

// P10.1: what is dead, as a collection goes by.
func TestPhases(t *testing.T) {
	w := start.World()
	kit.Plain(&w, api.ClassArray) // 23: lost
	kit.Plain(&w, api.ClassArray) // 24: kept
	w.R.Frame = 24
	m := made(t, w, 50)
	if len(m.World().Dead) != 0 {
		t.Error("a list of what is dead, where none was given")
	}
	for phase := range 3 {
		if m.Phase() != phase {
			t.Fatalf("phase %d", m.Phase())
		}
		for m.Phase() == phase {
			cycle.Work(m, 1)
		}
		if got := m.World(); len(got.Dead) != 25 || got.Dead[23] != (phase > 0) || got.Dead[24] || !image.Check(got) {
			t.Errorf("phase %d: dead %v", phase, got.Dead)
		}
		if m.Has(23) != (phase == 0) || !m.Has(24) {
			t.Errorf("phase %d: %v, %v", phase, m.Has(23), m.Has(24))
		}
		if phase == api.Sweep && m.Colour(24) != 0 || phase == api.Marks && m.Colour(24) != 2 {
			t.Errorf("phase %d: colour %d", phase, m.Colour(24))
		}
	}
	for _, colour := range []int{-1, 3} {
		if m.Paint(24, colour); m.Colour(24) != 0 {
			t.Errorf("colour %d", colour)
		}
	}
	m.Watch(24)
	if m.Unwatch(24); m.Thing(24).Final {
		t.Error("watched still")
	}
	if m.Sweep(); m.Phase() != api.Idle {
		t.Error("nothing is to be swept")
	}
}

// P10.5, and that what is turned stays an image.
func TestStaysImage(t *testing.T) {
	r := rand.New(rand.NewSource(7))
	for range 60 {
		m := made(t, kit.Any(r.Intn, r.Intn(25)), 1+r.Intn(5))
		if r.Intn(2) == 0 {
			m.Mark()
			for id := range m.Len() { // a mark that has come to its end
				m.Paint(id, 2)
			}
		}
		for range 150 {
			some := func() int { return r.Intn(m.Len()+2) - 1 }
			v := num(r.Intn(5))
			if r.Intn(2) == 0 {
				v = obj(some())
			}
			switch r.Intn(7) {
			case 0, 1:
				m.Set(some(), r.Intn(6), v)
			case 2:
				m.SetByte(some(), r.Intn(5), r.Intn(256))
			case 3:
				m.Make(some(), r.Intn(6))
			case 4:
				m.Become(some(), some())
			case 5:
				m.Watch(some())
			case 6:
				m.Of(some())
				m.Owners(some())
			}
			w := m.World()
			if !image.Check(w) {
				t.Fatal("no image any more")
			}
			if m.Phase() != api.Marks {
				continue
			}
			for id, x := range w.L {
				if m.Colour(id) != 2 || x.Fmt == api.Weak {
					continue
				}
				if m.Colour(x.Class) == 0 {
					t.Fatal("a Black one of a White class")
				}
				for _, v := range x.F {
					if v.Obj && m.Colour(v.N) == 0 {
						t.Fatal("a White one in a Black one")
					}
				}
			}
		}
		if !reach.Same(m.World(), m.World()) {
			t.Fatal("not the same")
		}
	}
}
