package start_test

import (
	"reflect"
	"testing"

	"colloquy/api"
	"colloquy/image"
	"colloquy/start"
)

// P28.1: the first world.
func TestWorld(t *testing.T) {
	w := start.World()
	if !image.Check(w) || len(w.L) != api.Specials || w.Last != 23 || len(w.Dead) != 0 || !reflect.DeepEqual(w.R, api.Regs{}) {
		t.Fatal("the first world")
	}
	sizes := map[int]int{api.ClassClass: 5, api.ClassFrame: 22, api.ClassBlock: 4, api.ClassProc: 2, api.ClassSema: 1, api.ClassMess: 2, api.ClassPoint: 2}
	formats := map[int]int{api.ClassText: api.Bytes, api.ClassName: api.Bytes, api.ClassWeak: api.Weak}
	names := map[int]string{api.NameLost: "lost", api.NameBool: "bool", api.NameBack: "back"}
	none := api.Val{Obj: true}
	for at, got := range w.L {
		want := api.Thing{Class: api.ClassNil + at, Fmt: api.Plain, Hash: at + 1}
		switch {
		case at == api.SemaDue:
			want.Class, want.F = api.ClassSema, []api.Val{{}}
		case at >= api.NameLost:
			want.Class, want.Fmt, want.B = api.ClassName, api.Bytes, names[at]
		case at >= api.ClassNil:
			want.Class = api.ClassClass
			want.F = []api.Val{none, none, none, {N: sizes[at]}, {N: max(formats[at], api.Plain)}}
		}
		if !reflect.DeepEqual(got, want) {
			t.Errorf("thing %d is %v, not %v", at, got, want)
		}
	}
	w.L[3].F[0] = api.Val{N: 5}
	if start.World().L[3].F[0] != none {
		t.Error("two worlds have something in common")
	}
}
