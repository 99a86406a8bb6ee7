package process_test

import (
	"math"
	"math/rand"
	"reflect"
	"slices"
	"testing"

	"colloquy/api"
	"colloquy/image"
	"colloquy/kit"
	"colloquy/object"
	"colloquy/process"
	"colloquy/start"
)

var obj, num, none = kit.Obj, kit.Num, kit.Obj(api.Nil)

// Places in the world that most tests begin with.
const (
	method = 24
	f1     = 25 // frames
	f2     = 26
	low    = 27 // processes, levels 2, 5, 5, 8
	mid    = 28
	mid2   = 29
	high   = 30
	sema   = 31 // a semaphore with 0
	plenty = 32 // with 3
	empty  = 33 // a thing with no fields
	next   = 34
)

func small() api.World {
	w := start.World()
	kit.Method(&w, 0, 0, 0, "")
	kit.Frame(&w, 0, method, none)
	kit.Frame(&w, 0, method, none)
	kit.Proc(&w, f1, 2)
	kit.Proc(&w, f2, 5)
	kit.Proc(&w, 0, 5)
	kit.Proc(&w, f1, 8)
	kit.Sema(&w, 0)
	kit.Sema(&w, 3)
	kit.Plain(&w, api.ClassArray)
	return w
}

func made(t *testing.T, w api.World, r api.Regs) *object.Mem {
	t.Helper()
	w.R = r
	if !image.Check(w) {
		t.Fatal("no image")
	}
	m, _ := object.New(w, 50)
	return m
}

// refused tells that a call says false, and turns nothing.
func refused(t *testing.T, what string, m *object.Mem, f func() bool) {
	t.Helper()
	before := m.World()
	if f() {
		t.Errorf("%s: true", what)
	}
	if !reflect.DeepEqual(m.World(), before) {
		t.Errorf("%s: something is turned", what)
	}
}

// regs tells that the registers are so.
func regs(t *testing.T, what string, m *object.Mem, want api.Regs) {
	t.Helper()
	got := m.Regs()
	if got.Proc != want.Proc || got.Frame != want.Frame || !slices.Equal(got.Ready, want.Ready) || !slices.Equal(got.Wait, want.Wait) || got.How != want.How {
		t.Errorf("%s: %v, not %v", what, got, want)
	}
}

// P19.1: processes.
func TestIs(t *testing.T) {
	for _, x := range []struct {
		f     []api.Val
		level int
	}{
		{[]api.Val{obj(f1), num(1)}, 1},
		{[]api.Val{obj(f1), num(9), num(1)}, 9},
		{[]api.Val{none, num(3)}, 3},
		{[]api.Val{obj(f1), num(0)}, 0},
		{[]api.Val{obj(f1), num(10)}, 0},
		{[]api.Val{obj(f1), num(-1)}, 0},
		{[]api.Val{obj(f1), obj(1)}, 0},
		{[]api.Val{num(0), num(1)}, 0},
		{[]api.Val{obj(method), num(1)}, 0},
		{[]api.Val{obj(f1)}, 0},
		{nil, 0},
	} {
		w := small()
		w.L[low].F = x.f
		m := made(t, w, api.Regs{})
		if process.Is(m, low) != (x.level > 0) || process.Level(m, low) != x.level {
			t.Errorf("%v: %v, level %d", x.f, process.Is(m, low), process.Level(m, low))
		}
	}
	w := small()
	w.L[low].Fmt = api.Weak
	if process.Is(made(t, w, api.Regs{}), low) {
		t.Error("a Weak process")
	}
	w = small()
	w.L[f1].Fmt = api.Weak
	w.L[f2].F[3] = none // like a frame is enough
	m := made(t, w, api.Regs{})
	if process.Is(m, low) || process.Is(m, high) || !process.Is(m, mid) {
		t.Error("a Weak frame")
	}
	for _, id := range []int{0, -1, next, empty, math.MaxInt, math.MinInt} {
		if process.Is(m, id) || process.Level(m, id) != 0 || process.IsSema(m, id) {
			t.Errorf("%d is a process or a semaphore", id)
		}
	}
}

// P19.1: semaphores.
func TestIsSema(t *testing.T) {
	for _, x := range []struct {
		f  []api.Val
		ok bool
	}{{[]api.Val{num(0)}, true}, {[]api.Val{num(api.MaxInt - 1), none}, true}, {[]api.Val{num(-1)}, false}, {[]api.Val{none}, false}, {nil, false}} {
		w := small()
		w.L[sema].F = x.f
		m := made(t, w, api.Regs{Proc: low, Frame: f1})
		if process.IsSema(m, sema) != x.ok {
			t.Errorf("%v", x.f)
		}
		if !x.ok {
			refused(t, "Signal", m, func() bool { return process.Signal(m, sema) })
			refused(t, "Await", m, func() bool { return process.Await(m, sema) })
		}
	}
	w := small()
	w.L[sema].Fmt = api.Weak
	if process.IsSema(made(t, w, api.Regs{}), sema) {
		t.Error("Weak")
	}
}

// P19.2: where a process stands among those that are ready.
func TestReady(t *testing.T) {
	m := made(t, small(), api.Regs{Proc: f1, Frame: f2, How: api.Ended})
	for _, x := range []struct {
		id   int
		want []int
	}{
		{mid, []int{mid}},
		{low, []int{mid, low}},
		{high, []int{high, mid, low}},
		{mid2, []int{high, mid, mid2, low}},
		{mid, []int{high, mid, mid2, mid, low}},
	} {
		if !process.Ready(m, x.id) {
			t.Errorf("Ready(%d)", x.id)
		}
		regs(t, "Ready", m, api.Regs{Proc: f1, Frame: f2, Ready: x.want, How: api.Ended})
	}
	for _, id := range []int{0, f1, sema, next, -1, math.MaxInt} {
		refused(t, "no process", m, func() bool { return process.Ready(m, id) })
	}
	// behind the last one that is not below, whatever is ahead of it
	m = made(t, small(), api.Regs{Ready: []int{low, mid, empty, low}})
	process.Ready(m, mid2)
	regs(t, "in between", m, api.Regs{Ready: []int{low, mid, mid2, empty, low}})
	m = made(t, small(), api.Regs{Ready: slices.Repeat([]int{low}, 19)})
	if !process.Ready(m, high) || len(m.Regs().Ready) != 20 {
		t.Error("the twentieth")
	}
	refused(t, "one more", m, func() bool { return process.Ready(m, high) })
	w := small()
	w.L[0].F = []api.Val{none, num(4)}
	m = made(t, w, api.Regs{})
	if !process.Is(m, 0) {
		t.Error("Nil is one by these words")
	}
	refused(t, "Nil", m, func() bool { return process.Ready(m, 0) })
}

// P19.2: the first one that is ready goes on.
func TestTake(t *testing.T) {
	m := made(t, small(), api.Regs{Proc: high, Frame: f2, Ready: []int{low, empty, mid2, sema}, Wait: []api.Wait{{Sema: sema, Proc: mid}}, Out: "o", Exit: 3})
	for _, want := range []api.Regs{{Proc: low, Frame: f1, Ready: []int{empty, mid2, sema}}, {Proc: empty, Ready: []int{mid2, sema}}, {Proc: mid2, Ready: []int{sema}}, {Proc: sema}} {
		want.Wait = []api.Wait{{Sema: sema, Proc: mid}}
		if !process.Take(m) {
			t.Error("Take")
		}
		regs(t, "Take", m, want)
	}
	for range 2 {
		if process.Take(m) {
			t.Error("Take of none")
		}
		regs(t, "Take of none", m, api.Regs{How: api.Rests, Wait: []api.Wait{{Sema: sema, Proc: mid}}})
	}
	if r := m.Regs(); r.Out != "o" || r.Exit != 3 || m.Get(high, 0) != obj(f1) {
		t.Error("something else is turned")
	}
}

// P19.2: others go first.
func TestYield(t *testing.T) {
	m := made(t, small(), api.Regs{Proc: mid2, Frame: f1, Ready: []int{high, mid, low}})
	if !process.Yield(m) || m.Get(mid2, 0) != obj(f1) {
		t.Error("Yield")
	}
	regs(t, "Yield", m, api.Regs{Proc: high, Frame: f1, Ready: []int{mid, mid2, low}})
	m = made(t, small(), api.Regs{Proc: low})
	if !process.Yield(m) || m.Get(low, 0) != none {
		t.Error("Yield where Frame is 0")
	}
	regs(t, "Yield where Frame is 0", m, api.Regs{Proc: low})
	m = made(t, small(), api.Regs{Proc: low, Frame: f2})
	if !process.Yield(m) || m.Get(low, 0) != obj(f2) {
		t.Error("Yield alone")
	}
	regs(t, "Yield alone", m, api.Regs{Proc: low, Frame: f2})
	for _, r := range []api.Regs{{Proc: 0, Frame: f1, Ready: []int{low}}, {Proc: sema, Frame: f1, Ready: []int{low}}, {Proc: low, Frame: f2, Ready: slices.Repeat([]int{mid}, 20)}} {
		m := made(t, small(), r)
		refused(t, "Yield", m, func() bool { return process.Yield(m) })
	}
	m = made(t, small(), api.Regs{Proc: low, Frame: method, Ready: []int{mid}})
	if process.Yield(m) || m.Get(low, 0) != obj(method) {
		t.Error("what is no process by its frame")
	}
	regs(t, "what is no process by its frame", m, api.Regs{Proc: low, Frame: method, Ready: []int{mid}})
	w := small()
	w.L[0].F = []api.Val{none, num(4)}
	m = made(t, w, api.Regs{Frame: f1, Ready: []int{low}})
	refused(t, "Nil", m, func() bool { return process.Yield(m) })
	refused(t, "Nil", m, func() bool { return process.Tick(m) })
	refused(t, "Nil", m, func() bool { return process.Await(m, sema) })
}

// P19.3: signals.
func TestSignal(t *testing.T) {
	m := made(t, small(), api.Regs{})
	if !process.Signal(m, sema) || m.Get(sema, 0) != num(1) || !process.Signal(m, plenty) || m.Get(plenty, 0) != num(4) {
		t.Error("Signal")
	}
	wait := []api.Wait{{Sema: plenty, Proc: low}, {Sema: sema, Proc: mid}, {Sema: sema, Proc: high}}
	m = made(t, small(), api.Regs{Wait: wait, Ready: []int{mid2, low}})
	if !process.Signal(m, sema) || m.Get(sema, 0) != num(0) {
		t.Error("Signal where one waits")
	}
	regs(t, "Signal", m, api.Regs{Ready: []int{mid2, mid, low}, Wait: []api.Wait{wait[0], wait[2]}})
	if !process.Signal(m, sema) || !process.Signal(m, sema) || m.Get(sema, 0) != num(1) {
		t.Error("Signal where none waits any more")
	}
	regs(t, "Signal", m, api.Regs{Ready: []int{high, mid2, mid, low}, Wait: []api.Wait{wait[0]}})
	m = made(t, small(), api.Regs{Wait: []api.Wait{{Sema: sema, Proc: empty}, {Sema: sema, Proc: mid}}})
	refused(t, "no process", m, func() bool { return process.Signal(m, sema) })
	m = made(t, small(), api.Regs{Wait: wait, Ready: slices.Repeat([]int{low}, 20)})
	refused(t, "no room", m, func() bool { return process.Signal(m, sema) })
	w := small()
	w.L[plenty].F[0] = num(api.MaxInt - 1)
	m = made(t, w, api.Regs{})
	refused(t, "what does not fit", m, func() bool { return process.Signal(m, plenty) })
	for _, id := range []int{0, f1, empty, next, -1, math.MinInt} {
		refused(t, "no semaphore", m, func() bool { return process.Signal(m, id) })
	}
}

// P19.3: waiting.
func TestAwait(t *testing.T) {
	m := made(t, small(), api.Regs{Proc: low, Frame: f2, Ready: []int{mid}})
	if !process.Await(m, plenty) || m.Get(plenty, 0) != num(2) || m.Get(low, 0) != obj(f1) {
		t.Error("Await of a number above 0")
	}
	regs(t, "Await of a number above 0", m, api.Regs{Proc: low, Frame: f2, Ready: []int{mid}})
	if !process.Await(m, sema) || m.Get(sema, 0) != num(0) || m.Get(low, 0) != obj(f2) {
		t.Error("Await")
	}
	regs(t, "Await", m, api.Regs{Proc: mid, Frame: f2, Wait: []api.Wait{{Sema: sema, Proc: low}}})
	if !process.Await(m, sema) {
		t.Error("Await where none is ready")
	}
	regs(t, "Await where none is ready", m, api.Regs{Wait: []api.Wait{{Sema: sema, Proc: low}, {Sema: sema, Proc: mid}}, How: api.Rests})
	for _, r := range []api.Regs{{Frame: f1}, {Proc: sema, Frame: f1}, {Proc: low, Frame: f2, Ready: []int{mid}, Wait: slices.Repeat([]api.Wait{{Sema: plenty, Proc: mid}}, 20)}} {
		m := made(t, small(), r)
		refused(t, "Await", m, func() bool { return process.Await(m, sema) })
	}
	m = made(t, small(), api.Regs{Proc: low, Frame: f1, Ready: []int{mid}})
	for _, id := range []int{0, f1, empty, next, -1, math.MaxInt} {
		refused(t, "no semaphore", m, func() bool { return process.Await(m, id) })
	}
	w := small()
	w.L[0].F = []api.Val{num(1)}
	m = made(t, w, api.Regs{Proc: low, Frame: f1, Ready: []int{mid}})
	if !process.Await(m, 0) || m.Get(0, 0) != num(0) {
		t.Error("Nil with a number above 0")
	}
	refused(t, "Nil", m, func() bool { return process.Await(m, 0) })
	if !process.Signal(m, 0) || m.Get(0, 0) != num(1) {
		t.Error("Signal of Nil")
	}
	m = made(t, small(), api.Regs{Proc: low, Frame: f1, Wait: slices.Repeat([]api.Wait{{Sema: plenty, Proc: mid}}, 20)})
	if !process.Await(m, plenty) {
		t.Error("a number above 0, where there is no room")
	}
}

// P19.3: time.
func TestTick(t *testing.T) {
	for _, x := range []struct {
		proc  int
		ready []int
		ok    bool
	}{{low, []int{mid}, true}, {mid2, []int{mid}, true}, {high, []int{mid}, false}, {high, nil, false}, {low, []int{empty, high}, false}, {sema, []int{mid}, false}, {0, []int{mid}, false}} {
		m := made(t, small(), api.Regs{Proc: x.proc, Frame: f1, Ready: x.ready})
		if !x.ok {
			refused(t, "Tick", m, func() bool { return process.Tick(m) })
			continue
		}
		if !process.Tick(m) {
			t.Error("Tick")
		}
		regs(t, "Tick", m, api.Regs{Proc: mid, Frame: f2, Ready: []int{x.proc}})
	}
}

// P19.3: new processes.
func TestFork(t *testing.T) {
	m := made(t, small(), api.Regs{Ready: []int{mid, low}})
	id, ok := process.Fork(m, f2, 5)
	if want := (api.Thing{Class: api.ClassProc, Fmt: api.Plain, Hash: 35, F: []api.Val{obj(f2), num(5)}}); id != next || !ok || !reflect.DeepEqual(m.Thing(next), want) {
		t.Errorf("%d, %v: %v", id, ok, m.Thing(next))
	}
	regs(t, "Fork", m, api.Regs{Ready: []int{mid, next, low}})
	if id, ok := process.Fork(made(t, small(), api.Regs{}), f1, 1); id != next || !ok {
		t.Error("of the lowest level")
	}
	if id, ok := process.Fork(m, 0, 9); id != next+1 || !ok || m.Regs().Ready[0] != next+1 {
		t.Error("of Nil")
	}
	m = made(t, small(), api.Regs{})
	for _, x := range [][2]int{{next, 1}, {-1, 1}, {math.MinInt, 1}, {f1, 0}, {f1, 10}, {f1, -1}, {f1, math.MaxInt}} {
		refused(t, "Fork", m, func() bool { id, ok := process.Fork(m, x[0], x[1]); return ok || id != 0 })
	}
	for _, x := range [][2]int{{3, 1}, {3, 0}, {4, api.Weak}, {4, api.Bytes}} {
		w := small()
		w.L[api.ClassProc].F[x[0]] = num(x[1])
		m := made(t, w, api.Regs{})
		refused(t, "Fork", m, func() bool { id, ok := process.Fork(m, f1, 5); return ok || id != 0 })
	}
	w := small()
	w.Last = api.MaxObjects
	m = made(t, w, api.Regs{})
	refused(t, "no room", m, func() bool { id, ok := process.Fork(m, f1, 5); return ok || id != 0 })
	for _, r := range []api.Regs{{Ready: slices.Repeat([]int{low}, 20)}, {}} {
		at := f1
		if len(r.Ready) == 0 {
			at = method // no process by that
		}
		m := made(t, small(), r)
		if id, ok := process.Fork(m, at, 5); id != 0 || ok || m.Len() != next+1 || m.Get(next, 0) != obj(at) || m.Get(next, 1) != num(5) {
			t.Error("what was made stays")
		}
		regs(t, "Fork", m, r)
	}
	w = small()
	w.L[api.ClassProc].F[3] = num(3)
	if id, ok := process.Fork(made(t, w, api.Regs{}), f1, 5); id != next || !ok {
		t.Error("with a field more")
	}
}

// P19.4: no process is in two places, if none was.
func TestOnce(t *testing.T) {
	r := rand.New(rand.NewSource(1))
	for range 100 {
		m := made(t, small(), api.Regs{Proc: low, Frame: f1, Ready: []int{high, mid}})
		for range 100 {
			switch r.Intn(6) {
			case 0:
				process.Yield(m)
			case 1:
				process.Tick(m)
			case 2:
				process.Signal(m, sema+r.Intn(2))
			case 3:
				process.Await(m, sema+r.Intn(2))
			case 4:
				process.Fork(m, f1, 1+r.Intn(9))
			case 5:
				if r.Intn(4) == 0 {
					process.Take(m)
				}
			}
			x := m.Regs()
			all := append([]int{x.Proc}, x.Ready...)
			for _, y := range x.Wait {
				all = append(all, y.Proc)
			}
			slices.Sort(all)
			if len(slices.Compact(all)) != 1+len(x.Ready)+len(x.Wait) {
				t.Fatalf("%v", x)
			}
			if !image.Check(m.World()) {
				t.Fatal("no image any more")
			}
		}
	}
}
