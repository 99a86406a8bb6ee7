package script_test

import (
	"math"
	"math/rand"
	"reflect"
	"testing"

	"colloquy/api"
	"colloquy/image"
	"colloquy/kit"
	"colloquy/script"
	"colloquy/start"
)

var obj, none = kit.Obj, kit.Obj(api.Nil)

// looped is a world whose process does some instructions, again and again.
func looped(code string) api.World {
	w := start.World()
	method := kit.Method(&w, 0, 0, 0, kit.Code(code+", jump 0 0"))
	f := kit.Frame(&w, 0, method, none)
	w.R.Proc, w.R.Frame = kit.Proc(&w, f, 1), f
	return w
}

// each gives both traces of a world, which must be the same.
func each(t *testing.T, w api.World, l ...api.Event) script.Trace {
	t.Helper()
	before := append([]api.Event(nil), l...)
	a, ok := script.Ideal(w, 50, l)
	b, ok1 := script.Real(w, 5000, 50, l)
	if !ok || !ok1 || !reflect.DeepEqual(a, b) {
		t.Fatalf("%v, %v\n%v\n%v", ok, ok1, a, b)
	}
	if !reflect.DeepEqual(l, before) {
		t.Error("the events are turned")
	}
	return a
}

// P25.1: where there is no machine.
func TestNone(t *testing.T) {
	bad := start.World()
	bad.L[0].Class = 7
	l := []api.Event{{Kind: api.EvSteps, N: 1}}
	if x, ok := script.Ideal(bad, 5, l); ok || !reflect.DeepEqual(x, script.Trace{}) {
		t.Error("Ideal of what may not be")
	}
	if x, ok := script.Real(bad, 5000, 5, l); ok || !reflect.DeepEqual(x, script.Trace{}) {
		t.Error("Real of what may not be")
	}
	if x, ok := script.Real(start.World(), 50, 5, l); ok || !reflect.DeepEqual(x, script.Trace{}) {
		t.Error("Real in too few words")
	}
}

// P25.1: no events.
func TestNoEvents(t *testing.T) {
	if got := each(t, looped("dup")); !reflect.DeepEqual(got, script.Trace{}) {
		t.Errorf("%v", got)
	}
	w := looped("dup")
	w.R.Out, w.R.How, w.R.Exit, w.R.Snaps = "o", api.Rests, 7, []string{"s", "t"}
	if got := each(t, w); !reflect.DeepEqual(got, script.Trace{Out: "o", How: api.Rests, Exit: 7, Snaps: []string{"s", "t"}}) {
		t.Errorf("%v", got)
	}
}

// P25.1: steps, as long as it goes.
func TestSteps(t *testing.T) {
	for _, x := range []struct{ n, want int }{{0, 0}, {-1, 0}, {math.MinInt, 0}, {5, 5}, {api.MaxSteps, api.MaxSteps}, {api.MaxSteps + 1, api.MaxSteps}, {math.MaxInt, api.MaxSteps}} {
		got := each(t, looped("int 1, pop"), api.Event{Kind: api.EvSteps, N: x.n})
		if got.Steps != x.want || got.How != api.Runs || got.Units != 0 {
			t.Errorf("%d steps: %v", x.n, got)
		}
	}
	for _, n := range []int{3, 4, 90} { // the third one can't be done
		got := each(t, looped("int 1, pop, pop"), api.Event{Kind: api.EvSteps, N: n}, api.Event{Kind: api.EvSteps, N: 2})
		if got.Steps != 3 || got.How != api.Broken {
			t.Errorf("%d steps: %v", n, got)
		}
	}
	w := looped("int 1")
	w.R.How = api.Ended
	if got := each(t, w, api.Event{Kind: api.EvSteps, N: 5}); got.Steps != 0 || got.How != api.Ended {
		t.Errorf("%v", got)
	}
}

// P25.1: units.
func TestUnits(t *testing.T) {
	for _, x := range []struct{ n, want, phase int }{{0, 0, 0}, {-1, 0, 0}, {math.MinInt, 0, 0}, {1, 1, api.Marks}, {28, 28, api.Marks}, {29, 29, api.Sweep}, {api.MaxSteps + 1, api.MaxSteps, -1}, {math.MaxInt, api.MaxSteps, -1}} {
		got := each(t, looped("int 1, pop"), api.Event{Kind: api.EvWork, N: x.n})
		if got.Units != x.want || got.Steps != 0 || x.phase >= 0 && got.Phase != x.phase {
			t.Errorf("%d units: %v", x.n, got)
		}
	}
	w := looped("int 1, pop")
	w.R.How = api.Rests
	if got := each(t, w, api.Event{Kind: api.EvWork, N: 5}); got.Units != 0 || got.Phase != api.Idle {
		t.Errorf("%v", got)
	}
}

// P25.1: ticks, bytes to read, others.
func TestOthers(t *testing.T) {
	w := start.World()
	name := kit.Bytes(&w, api.ClassName, "n")
	write := kit.Bytes(&w, api.ClassName, "w")
	read := kit.Method(&w, 0, 0, 57, "")
	put := kit.Method(&w, 1, 1, 56, kit.Code("self, ret"))
	dict := kit.Plain(&w, api.ClassArray, obj(name), obj(read), obj(write), obj(put))
	root := kit.Class(&w, 0, dict, 0, api.Plain)
	for _, class := range []int{api.ClassNil, api.ClassInt} {
		w.L[class].F[0] = obj(root)
	}
	code := "self, self, send 0 0, send 1 1, pop, jump 0 0"
	for range 2 {
		method := kit.Method(&w, 0, 0, 0, kit.Code(code), obj(name), obj(write))
		f := kit.Frame(&w, 0, method, none)
		p := kit.Proc(&w, f, 3)
		w.R.Ready = append(w.R.Ready, p)
		code = "int 193, int 193, send 0 1, pop, jump 0 0"
		name = write
	}
	w.R.Proc, w.R.Ready = w.R.Ready[0], w.R.Ready[1:]
	w.R.Frame = w.R.Proc - 1
	steps := func(n int) api.Event { return api.Event{Kind: api.EvSteps, N: n} }
	input := api.Event{Kind: api.EvInput, S: "xyz", N: 4}
	if got := each(t, w, input, steps(4), input, steps(6)); got.Out != "xy" {
		t.Errorf("Out %q", got.Out)
	}
	if got := each(t, w, input, steps(4), api.Event{Kind: api.EvTick, N: 7}, steps(3)); got.Out != "xA" {
		t.Errorf("Out %q", got.Out)
	}
	for _, kind := range []int{0, 5, -1, math.MaxInt, math.MinInt} {
		if got := each(t, w, input, api.Event{Kind: kind, N: 5, S: "x"}, steps(4)); got.Out != "x" || got.Steps != 4 {
			t.Errorf("kind %d: %v", kind, got)
		}
	}
}

// P25.1: at most the first thousand events.
func TestThousand(t *testing.T) {
	var l []api.Event
	for range 1001 {
		l = append(l, api.Event{Kind: api.EvSteps, N: 1}, api.Event{Kind: api.EvWork, N: 2})
	}
	if got := each(t, looped("int 1, pop"), l...); got.Steps != 500 || got.Units != 1000 {
		t.Errorf("%v", got)
	}
	if got := each(t, looped("int 1, pop"), l[:999]...); got.Steps != 500 || got.Units != 998 {
		t.Errorf("%v", got)
	}
}

// P25.2, T1: until Full both traces are the same.
func TestSame(t *testing.T) {
	full := 0
	for seed := range 80 {
		r := rand.New(rand.NewSource(int64(seed)))
		w := kit.Program(r.Intn)
		before := image.Copy(w)
		most := 1 + r.Intn(30)
		l := kit.Events(r.Intn, 120)
		a, ok := script.Ideal(w, most, l)
		b, ok1 := script.Real(w, 3000+r.Intn(9000), most, l)
		if !ok || !ok1 {
			t.Fatal("no machine")
		}
		if b.How == api.Full {
			full++
		} else if !reflect.DeepEqual(a, b) {
			t.Fatalf("seed %d\n%v\n%v", seed, a, b)
		}
		if !reflect.DeepEqual(w, before) {
			t.Fatal("the world is turned")
		}
	}
	if full > 40 {
		t.Errorf("%d times full", full)
	}
}
