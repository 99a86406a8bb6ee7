package watch_test

import (
	"math"
	"math/rand"
	"testing"

	"colloquy/api"
	"colloquy/image"
	"colloquy/kit"
	"colloquy/real"
	"colloquy/start"
	"colloquy/watch"
	"colloquy/word"
)

var obj, num, none = kit.Obj, kit.Num, kit.Obj(api.Nil)

// Things of the world that most tests begin with.
const (
	class = 23
	kept  = 24 // of that class: 1, far
	far   = 25
	weak  = 26 // lost; in the frame
	text  = 27 // in the frame
	lost  = 28
	alone = 29 // lost, with lost
	holds = 30 // the frame: kept, weak, text
)

func small(t *testing.T) *real.Machine {
	w := start.World()
	kit.Class(&w, 0, 0, 0, api.Plain)
	kit.Plain(&w, class, num(1), obj(far))
	kit.Plain(&w, api.ClassArray, none)
	kit.Weak(&w, obj(lost))
	kit.Bytes(&w, api.ClassText, "text")
	kit.Plain(&w, api.ClassArray, none)
	kit.Plain(&w, api.ClassArray, obj(lost))
	kit.Plain(&w, api.ClassArray, obj(kept), obj(weak), obj(text))
	w.R.Frame = holds
	m, err := real.New(w, 1000, 100)
	if err != api.OK {
		t.Fatal("no machine")
	}
	return m
}

// P24.1: what is as it must be, in each phase.
func TestWhole(t *testing.T) {
	m := small(t)
	for range 200 {
		if !watch.Whole(m) || !watch.Tight(m) {
			t.Fatalf("phase %d", m.Phase())
		}
		m.Work(1)
	}
}

// P24.1: what is not.
func TestNotWhole(t *testing.T) {
	for what, turn := range map[string]func(m *real.Machine, at func(id int) int){
		"dropped":         func(m *real.Machine, at func(id int) int) { m.Heap().Drop(at(far)) },
		"text dropped":    func(m *real.Machine, at func(id int) int) { m.Heap().Drop(at(text)) },
		"class dropped":   func(m *real.Machine, at func(id int) int) { m.Heap().Drop(at(class)) },
		"first dropped":   func(m *real.Machine, at func(id int) int) { m.Heap().Drop(at(api.NameBack)) },
		"frame dropped":   func(m *real.Machine, at func(id int) int) { m.Heap().Drop(at(holds)) },
		"field":           func(m *real.Machine, at func(id int) int) { m.Heap().SetField(at(kept), 1, word.Ref(at(far)+1)) },
		"field 0":         func(m *real.Machine, at func(id int) int) { m.Heap().SetField(at(kept), 1, 0) },
		"field beyond":    func(m *real.Machine, at func(id int) int) { m.Heap().SetField(at(kept), 1, word.Ref(5000)) },
		"class":           func(m *real.Machine, at func(id int) int) { m.Heap().SetClass(at(far), at(kept)+1) },
		"class 0":         func(m *real.Machine, at func(id int) int) { m.Heap().SetClass(at(text), 0) },
		"class of a lost": func(m *real.Machine, at func(id int) int) { m.Heap().SetClass(at(alone), 0) },
		"class of weak":   func(m *real.Machine, at func(id int) int) { m.Heap().SetClass(at(weak), 0) },
		"field of a lost": func(m *real.Machine, at func(id int) int) { m.Heap().SetField(at(alone), 0, 0) },
		"lost dropped":    func(m *real.Machine, at func(id int) int) { m.Heap().Drop(at(lost)) }, // alone has it
		"hash twice": func(m *real.Machine, at func(id int) int) {
			p, _ := m.Heap().Make(api.Plain, 0, at(class), 26)
			m.Heap().SetField(at(kept), 0, word.Ref(p))
		},
	} {
		m := small(t)
		place := map[int]int{}
		for id := range holds + 1 {
			place[id] = m.At(id + 1)
		}
		turn(m, func(id int) int { return place[id] })
		if watch.Whole(m) {
			t.Errorf("%s: whole", what)
		}
	}
}

// P24.1: what is not asked.
func TestNotAsked(t *testing.T) {
	for what, turn := range map[string]func(m *real.Machine){
		"a number":       func(m *real.Machine) { m.Heap().SetField(m.At(kept+1), 0, word.Int(math.MaxInt)) },
		"weak's field":   func(m *real.Machine) { m.Heap().SetField(m.At(weak+1), 0, 0) },
		"weak's lost":    func(m *real.Machine) { m.Heap().SetField(m.At(weak+1), 0, word.Ref(7)) },
		"another object": func(m *real.Machine) { m.Heap().SetField(m.At(kept+1), 1, word.Ref(m.At(lost+1))) },
		"a lost one":     func(m *real.Machine) { m.Heap().Drop(m.At(alone + 1)) },
	} {
		m := small(t)
		turn(m)
		if !watch.Whole(m) {
			t.Errorf("%s: not whole", what)
		}
	}
	m := small(t)
	at := m.At(alone + 1)
	for m.Phase() != api.Sweep {
		m.Work(1)
	}
	m.Heap().SetField(at, 0, 0)
	m.Heap().SetClass(at, 0)
	if m.At(alone+1) != 0 || !m.Heap().Has(at) || !watch.Whole(m) {
		t.Error("a dead one's class and fields are asked")
	}
}

// P24.1: what is lost while it sweeps is not dead.
func TestLostNotDead(t *testing.T) {
	m := small(t)
	for m.Phase() != api.Sweep {
		m.Work(1)
	}
	m.Heap().SetField(m.At(holds+1), 0, word.Int(0))
	if !watch.Whole(m) {
		t.Error("not whole")
	}
	m.Heap().SetField(m.At(kept+1), 0, 0)
	if watch.Whole(m) {
		t.Error("whole")
	}
}

// P24.1: White ones in Black ones.
func TestTight(t *testing.T) {
	marked := func() *real.Machine {
		m := small(t)
		m.Work(1)
		for p := m.Heap().Next(0); p != 0; p = m.Heap().Next(p) {
			m.Heap().SetMark(p, 2, false)
		}
		return m
	}
	for what, x := range map[string]struct {
		id    int
		tight bool
	}{"a field": {far, false}, "a class": {class, false}, "bytes' class": {api.ClassText, false}, "weak's class": {api.ClassWeak, true}, "the frame": {holds, true}, "a field of what is lost": {lost, false}, "what is lost": {alone, true}} {
		m := marked()
		if !watch.Tight(m) {
			t.Fatal("all are Black")
		}
		m.Heap().SetMark(m.At(x.id+1), 1, false)
		if !watch.Tight(m) {
			t.Errorf("%s, Grey: not tight", what)
		}
		m.Heap().SetMark(m.At(x.id+1), 0, false)
		if watch.Tight(m) != x.tight {
			t.Errorf("%s, White: tight %v", what, !x.tight)
		}
	}
	m := marked()
	m.Heap().SetMark(m.At(lost+1), 0, false)
	m.Heap().SetMark(m.At(alone+1), 1, false)
	if !watch.Tight(m) {
		t.Error("a Weak one's field, and a Grey one's")
	}
	m = small(t) // Idle
	m.Heap().SetMark(m.At(kept+1), 2, false)
	if !watch.Tight(m) {
		t.Error("another phase")
	}
	for m.Phase() != api.Sweep {
		m.Work(1)
	}
	m.Heap().SetMark(m.At(far+1), 0, false)
	if !watch.Tight(m) {
		t.Error("another phase")
	}
}

// P24.2: where there is no machine, and no events.
func TestRun(t *testing.T) {
	w := start.World()
	if n, ok := watch.Run(w, 10, 5, nil); n != 0 || ok {
		t.Error("too few words")
	}
	if n, ok := watch.Run(api.World{}, 1000, 5, nil); n != 0 || ok {
		t.Error("what may not be")
	}
	if n, ok := watch.Run(w, 1000, 5, nil); n != 0 || !ok {
		t.Error("no events")
	}
	l := []api.Event{{Kind: 9}, {Kind: api.EvSteps, N: math.MaxInt}, {Kind: api.EvWork, N: math.MinInt}, {Kind: api.EvTick}, {Kind: api.EvInput, S: "x"}}
	if n, ok := watch.Run(w, 1000, 5, l); n != 0 || !ok {
		t.Error("any events")
	}
}

// P24.3, T2: Run answers 0, whatever is done, also where there is no room.
func TestRunsWhole(t *testing.T) {
	for seed := range 60 {
		r := rand.New(rand.NewSource(int64(seed)))
		w := kit.Program(r.Intn)
		if !image.Check(w) {
			t.Fatal("no image")
		}
		words := 2000 + r.Intn(4000)
		var l []api.Event
		for range 150 {
			l = append(l, kit.Events(r.Intn, 1)...)
			l = append(l, api.Event{Kind: api.EvWork, N: r.Intn(4)}, api.Event{Kind: api.EvSteps, N: r.Intn(3)})
		}
		if n, ok := watch.Run(w, words, 1+r.Intn(30), l); n != 0 || !ok {
			t.Errorf("seed %d: %d, %v", seed, n, ok)
		}
	}
}
