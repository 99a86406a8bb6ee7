// Package kit: worlds for the project's tests.
package kit

import (
	"slices"
	"strconv"
	"strings"

	"colloquy/api"
	"colloquy/code"
	"colloquy/start"
)

// Dice answers a number from 0 to one less than n.
type Dice func(n int) int

// Obj is a thing as a value.
func Obj(at int) api.Val { return api.Val{Obj: true, N: at} }

// Num is a number as a value.
func Num(n int) api.Val { return api.Val{N: n} }

// Add lays a thing behind the last one, with the next hash: its place.
func Add(w *api.World, t api.Thing) int {
	w.Last++
	t.Hash = w.Last
	w.L = append(w.L, t)
	if len(w.Dead) > 0 {
		w.Dead = append(w.Dead, false)
	}
	return len(w.L) - 1
}

// Plain adds a thing with fields.
func Plain(w *api.World, class int, f ...api.Val) int {
	return Add(w, api.Thing{Class: class, Fmt: api.Plain, F: slices.Clone(f)})
}

// Weak adds a thing with fields that keep nothing.
func Weak(w *api.World, f ...api.Val) int {
	return Add(w, api.Thing{Class: api.ClassWeak, Fmt: api.Weak, F: slices.Clone(f)})
}

// Bytes adds a thing with bytes.
func Bytes(w *api.World, class int, s string) int {
	return Add(w, api.Thing{Class: class, Fmt: api.Bytes, B: s})
}

// Class adds a class.
func Class(w *api.World, behind, dict, size, format int) int {
	return Plain(w, api.ClassClass, Obj(behind), Obj(dict), Obj(api.Nil), Num(size), Num(format))
}

// Method adds a method with its code, and the values behind it.
func Method(w *api.World, args, temps, prim int, code string, lits ...api.Val) int {
	f := []api.Val{Num(args), Num(temps), Num(prim), Obj(Bytes(w, api.ClassText, code))}
	return Plain(w, api.ClassCode, append(f, lits...)...)
}

// Code is instructions as bytes, told as names and numbers, with commas between: "int 129, send 0 1, ret".
func Code(text string) string {
	var l []code.Ins
	for _, one := range strings.Split(text, ",") {
		words := append(strings.Fields(one), "0", "0", "0")
		a, _ := strconv.Atoi(words[1])
		b, _ := strconv.Atoi(words[2])
		if op := code.Op(words[0]); op > 0 {
			l = append(l, code.Ins{Op: op, A: a, B: b})
		}
	}
	return code.Put(l)
}

// Frame adds a frame that is at the beginning of a method, with what lies on its stack.
func Frame(w *api.World, sender, method int, self api.Val, stack ...api.Val) int {
	f := []api.Val{Obj(sender), Num(0), Num(len(stack)), Obj(method), self, Obj(api.Nil)}
	f = append(f, stack...)
	for len(f) < 22 {
		f = append(f, Obj(api.Nil))
	}
	return Plain(w, api.ClassFrame, f...)
}

// Block adds a block.
func Block(w *api.World, home, args, temps, pc int) int {
	return Plain(w, api.ClassBlock, Obj(home), Num(args), Num(temps), Num(pc))
}

// Proc adds a process.
func Proc(w *api.World, frame, level int) int {
	return Plain(w, api.ClassProc, Obj(frame), Num(level))
}

// Sema adds a semaphore.
func Sema(w *api.World, n int) int { return Plain(w, api.ClassSema, Num(n)) }

// Any is a world of so many things behind the first ones, that image's Check says yes to.
func Any(dice Dice, count int) api.World {
	w := start.World()
	for range count {
		w.Last += dice(3)
		Add(&w, api.Thing{Fmt: api.Plain})
	}
	var classes []int
	for at := api.ClassNil; at <= api.ClassPoint; at++ {
		classes = append(classes, at)
	}
	for at := api.Specials; at < len(w.L); at++ {
		if dice(6) == 0 {
			w.L[at].Class = api.ClassClass
			w.L[at].F = []api.Val{value(dice, &w), value(dice, &w), value(dice, &w), Num(dice(5)), Num(1 + dice(3))}
			classes = append(classes, at)
		}
	}
	for at := api.Specials; at < len(w.L); at++ {
		if len(w.L[at].F) == 0 {
			fill(dice, &w, at, classes)
		}
		w.L[at].Final = dice(8) == 0
	}
	w.L[api.Nil].F = fields(dice, &w, dice(3))
	w.R = registers(dice, len(w.L))
	w.Last += dice(4)
	return w
}

// fill makes a thing anything but a class.
func fill(dice Dice, w *api.World, at int, classes []int) {
	t := &w.L[at]
	t.Class = classes[dice(len(classes))]
	switch dice(5) {
	case 0:
		t.Fmt = api.Bytes
		b := make([]byte, dice(9))
		for i := range b {
			b[i] = byte(dice(256))
		}
		t.B = string(b)
	case 1:
		t.Fmt = api.Weak
		t.F = fields(dice, w, dice(6))
	default:
		t.F = fields(dice, w, dice(4))
	}
}

func fields(dice Dice, w *api.World, n int) []api.Val {
	var l []api.Val
	for range n {
		l = append(l, value(dice, w))
	}
	return l
}

func value(dice Dice, w *api.World) api.Val {
	switch dice(8) {
	case 0:
		return Num(dice(2*api.MaxInt) - api.MaxInt)
	case 1:
		return Num(dice(5))
	}
	return Obj(dice(len(w.L)))
}

func registers(dice Dice, count int) api.Regs {
	some := func() int { return 1 + dice(count-1) }
	r := api.Regs{Out: "out", In: "in", How: dice(5), Exit: dice(256)}
	if dice(2) == 0 {
		r.Proc = some()
	}
	if dice(2) == 0 {
		r.Frame = some()
	}
	for range dice(3) {
		r.Ready = append(r.Ready, some())
		r.Wait = append(r.Wait, api.Wait{Sema: some(), Proc: some()})
		r.Snaps = append(r.Snaps, "snap")
	}
	if dice(2) == 0 {
		r.Due = append(r.Due, some())
	}
	return r
}
