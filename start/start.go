// Package start: the world that all begins with.
package start

import "colloquy/api"

// World is the first world: the first things, and nothing else.
func World() api.World {
	w := api.World{Last: api.Specials}
	for at := range api.Specials {
		x := first(at)
		x.Hash = at + 1
		w.L = append(w.L, x)
	}
	return w
}

// first is one of the first things.
func first(at int) api.Thing {
	switch at {
	case api.Nil:
		return api.Thing{Class: api.ClassNil, Fmt: api.Plain}
	case api.True:
		return api.Thing{Class: api.ClassTrue, Fmt: api.Plain}
	case api.False:
		return api.Thing{Class: api.ClassFalse, Fmt: api.Plain}
	case api.NameLost:
		return api.Thing{Class: api.ClassName, Fmt: api.Bytes, B: "lost"}
	case api.NameBool:
		return api.Thing{Class: api.ClassName, Fmt: api.Bytes, B: "bool"}
	case api.NameBack:
		return api.Thing{Class: api.ClassName, Fmt: api.Bytes, B: "back"}
	case api.SemaDue:
		return api.Thing{Class: api.ClassSema, Fmt: api.Plain, F: []api.Val{{}}}
	}
	none := api.Val{Obj: true, N: api.Nil}
	return api.Thing{Class: api.ClassClass, Fmt: api.Plain, F: []api.Val{none, none, none, {N: size(at)}, {N: format(at)}}}
}

// size is how many fields of its own a first class gives.
func size(class int) int {
	switch class {
	case api.ClassClass:
		return 5
	case api.ClassFrame:
		return 22
	case api.ClassBlock:
		return 4
	case api.ClassProc, api.ClassMess, api.ClassPoint:
		return 2
	case api.ClassSema:
		return 1
	}
	return 0
}

// format is the format that a first class gives.
func format(class int) int {
	switch class {
	case api.ClassText, api.ClassName:
		return api.Bytes
	case api.ClassWeak:
		return api.Weak
	}
	return api.Plain
}
