package vm_test

import (
	"bytes"
	"math"
	"math/rand"
	"reflect"
	"strings"
	"testing"

	"colloquy/api"
	"colloquy/image"
	"colloquy/kit"
	"colloquy/script"
	"colloquy/start"
	"colloquy/vm"
)

var obj, none = kit.Obj, kit.Obj(api.Nil)

// echo is a world that tells each byte that it reads, as bytes.
func echo(t *testing.T) (api.World, []byte) {
	w := start.World()
	read := kit.Bytes(&w, api.ClassName, "r")
	write := kit.Bytes(&w, api.ClassName, "w")
	dict := kit.Plain(&w, api.ClassArray, obj(read), obj(kit.Method(&w, 0, 0, 57, "")), obj(write), obj(kit.Method(&w, 1, 1, 56, kit.Code("self, ret"))))
	w.L[api.ClassNil].F[1] = obj(dict)
	method := kit.Method(&w, 0, 0, 0, kit.Code("self, self, send 0 0, send 1 1, pop, jump 0 0"), obj(read), obj(write))
	f := kit.Frame(&w, 0, method, none)
	w.R.Proc, w.R.Frame = kit.Proc(&w, f, 1), f
	b, err := image.Put(w)
	if err != api.OK {
		t.Fatal("no image")
	}
	return w, b
}

// P27.1: what can't be run.
func TestErrors(t *testing.T) {
	_, b := echo(t)
	l := []api.Event{{Kind: api.EvSteps, N: 10}}
	long := strings.Repeat("x", api.MaxText+1)
	bad := bytes.Clone(b)
	bad[14] = 9
	for what, x := range map[string]struct {
		b     []byte
		in    string
		words int
		want  api.Errno
	}{
		"no bytes":                  {nil, "", 1000, api.ErrShort},
		"no bytes, and all else":    {nil, long, 0, api.ErrShort},
		"too many bytes":            {make([]byte, api.MaxFile+1), long, 0, api.ErrBig},
		"other bytes":               {[]byte("CQ2"), long, 0, api.ErrBytes},
		"a format":                  {bad, "", 1000, api.ErrBytes},
		"no image":                  {append([]byte("CQ1"), make([]byte, 28)...), "", 1000, api.ErrImage},
		"too much to read":          {b, long, 1000, api.ErrArg},
		"too much to read, no room": {b, long, 10, api.ErrArg},
		"too few words":             {b, "x", 10, api.ErrRoom},
		"no words":                  {b, "x", math.MinInt, api.ErrRoom},
	} {
		if got, err := vm.Run(x.b, x.in, x.words, 5, l); err != x.want || !reflect.DeepEqual(got, script.Trace{}) {
			t.Errorf("%s: error %d, %v", what, err, got)
		}
	}
}

// P27.1: what is run.
func TestRun(t *testing.T) {
	w, b := echo(t)
	before := bytes.Clone(b)
	l := []api.Event{{Kind: api.EvSteps, N: 8}, {Kind: api.EvWork, N: 3}, {Kind: api.EvInput, S: "z"}, {Kind: api.EvSteps, N: 5}}
	for _, in := range []string{"", "xy", strings.Repeat("x", api.MaxText)} {
		got, err := vm.Run(b, in, 1000, 5, l)
		w.R.In = in
		want, ok := script.Real(w, 1000, 5, l)
		if err != api.OK || !ok || !reflect.DeepEqual(got, want) {
			t.Errorf("error %d: %v, not %v", err, got, want)
		}
	}
	if got, _ := vm.Run(b, "xyz", 1000, 5, l); got.Out != "xy" || got.Steps != 13 || got.Units != 3 || got.Phase != api.Marks {
		t.Errorf("%v", got)
	}
	if got, err := vm.Run(b, "xyz", 1000, 5, nil); err != api.OK || !reflect.DeepEqual(got, script.Trace{}) {
		t.Errorf("no events: %v", got)
	}
	if !bytes.Equal(b, before) {
		t.Error("the bytes are turned")
	}
}

// P27.1: events without what a collection does.
func TestQuiet(t *testing.T) {
	l := []api.Event{{Kind: api.EvWork, N: 3}, {Kind: api.EvSteps, N: 1}, {Kind: api.EvTick}, {Kind: api.EvWork}, {Kind: 9, N: 4}, {Kind: api.EvInput, S: "s"}, {Kind: api.EvWork}}
	before := append([]api.Event(nil), l...)
	got := vm.Quiet(l)
	if !reflect.DeepEqual(got, []api.Event{l[1], l[2], l[4], l[5]}) || !reflect.DeepEqual(l, before) {
		t.Errorf("%v", got)
	}
	got[0].N = 77
	if l[1].N == 77 {
		t.Error("what is answered shares with what was handed in")
	}
	if len(vm.Quiet(nil)) != 0 || len(vm.Quiet(l[:1])) != 0 {
		t.Error("of none")
	}
}

// P27.2, T4: of quiet programs increments turn nothing of what is told.
func TestIncrements(t *testing.T) {
	told := 0
	for seed := range 100 {
		r := rand.New(rand.NewSource(int64(seed)))
		b, err := image.Put(kit.Quiet(r.Intn))
		if err != api.OK {
			t.Fatal("no image")
		}
		l := kit.Events(r.Intn, 100)
		got, err := vm.Run(b, "in", 60000, 1+r.Intn(20), l)
		want, err1 := vm.Run(b, "in", 60000, 5, vm.Quiet(l))
		if err != api.OK || err1 != api.OK {
			t.Fatal("not run")
		}
		got.Units, got.Phase = want.Units, want.Phase
		if !reflect.DeepEqual(got, want) {
			t.Errorf("seed %d\n%v\n%v", seed, got, want)
		}
		told += len(got.Out) + len(got.Snaps)
	}
	if told < 50 {
		t.Errorf("only %d told", told)
	}
}
