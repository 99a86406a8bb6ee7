package thing

import (
	"colloquy/api"
	"colloquy/object"
	"colloquy/plane"
)

// pointSize is how many fields a point has.
const pointSize = 2

// point is a primitive on points.
func point(m *object.Mem, n int, self api.Val, args []api.Val) (api.Val, bool) {
	var bx, by int
	ax, ay, ok := parts(m, self)
	if !ok {
		goto none
	}
	if n == pointNorm {
		norm, ok := plane.Norm(ax, ay)
		if !ok {
			goto none
		}
		return fits(norm)
	}
	if bx, by, ok = parts(m, args[0]); !ok {
		goto none
	}
	if ax, ay, ok = plane.Op(n-pointSum+1, ax, ay, bx, by); !ok {
		goto none
	}
	return newPoint(m, ax, ay)
none:
	return api.Val{}, false
}

// parts are a point's two numbers.
func parts(m *object.Mem, v api.Val) (int, int, bool) {
	if !v.Obj || m.Class(v.N) != api.ClassPoint || m.Fmt(v.N) != api.Plain || m.Size(v.N) != pointSize {
		return 0, 0, false
	}
	x, y := m.Get(v.N, 0), m.Get(v.N, 1)
	return x.N, y.N, !x.Obj && !y.Obj
}

// newPoint is a new point, if ClassPoint makes such.
func newPoint(m *object.Mem, x, y int) (api.Val, bool) {
	if size, format := m.Shape(api.ClassPoint); size != pointSize || format != api.Plain {
		return api.Val{}, false
	}
	made, ok := m.Make(api.ClassPoint, 0)
	if !ok {
		return api.Val{}, false
	}
	m.Set(made, 0, api.Val{N: x})
	m.Set(made, 1, api.Val{N: y})
	return thing(made), true
}
