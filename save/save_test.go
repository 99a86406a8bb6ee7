package save_test

import (
	"math"
	"math/rand"
	"reflect"
	"slices"
	"testing"

	"colloquy/api"
	"colloquy/heap"
	"colloquy/image"
	"colloquy/kit"
	"colloquy/load"
	"colloquy/reach"
	"colloquy/save"
	"colloquy/start"
	"colloquy/word"
)

var obj, num = kit.Obj, kit.Num

// told is a world's registers with places in a heap.
func told(w api.World, at []int) api.Regs {
	r := w.R
	reach.Told(&r, func(id int) int { return at[id] })
	return r
}

func emptied(w api.World) api.World {
	w = image.Copy(w)
	for i := range w.L {
		if len(w.L[i].F) == 0 {
			w.L[i].F = nil
		}
	}
	return w
}

// P22.1, P22.2: what is loaded and saved is its Canon.
func TestCanon(t *testing.T) {
	r := rand.New(rand.NewSource(1))
	for range 300 {
		w := kit.Any(r.Intn, r.Intn(40))
		h, at, ok := load.Load(w, 3000)
		if !ok {
			t.Fatal("no room")
		}
		first, regs := slices.Clone(at[:api.Specials]), told(w, at)
		before := regs
		reach.Told(&before, func(at int) int { return at })
		got, ok := save.Save(h, first, regs, w.Last)
		if !ok || len(got.Dead) != 0 || !reflect.DeepEqual(emptied(got), emptied(reach.Canon(w))) {
			t.Fatalf("%v\n%v\n%v", ok, got, reach.Canon(w))
		}
		if !slices.Equal(first, at[:api.Specials]) || !reflect.DeepEqual(regs, before) {
			t.Fatal("what is handed in is turned")
		}
	}
}

// small is a heap of the first world with some more: where its things are.
func small(t *testing.T) (*heap.Heap, []int) {
	w := start.World()
	kit.Plain(&w, api.ClassArray, num(1), obj(24)) // 23
	kit.Weak(&w, obj(25))                          // 24
	kit.Bytes(&w, api.ClassText, "abc")            // 25
	kit.Class(&w, 0, 0, 0, api.Plain)              // 26
	kit.Plain(&w, 26)                              // 27
	h, at, ok := load.Load(w, 1000)
	if !ok {
		t.Fatal("no room")
	}
	return h, at
}

// P22.1: by the Hash, wherever the objects stand.
func TestByHash(t *testing.T) {
	h, at := small(t)
	h.Drop(at[27])
	late, _ := h.Make(api.Plain, 1, at[api.ClassArray], 40)
	early, _ := h.Make(api.Plain, 1, at[api.ClassArray], 30)
	h.Drop(late)
	late, _ = h.Make(api.Plain, 0, at[api.ClassArray], 41) // where both have been, or behind
	h.SetField(early, 0, word.Ref(late))
	h.SetField(at[23], 0, word.Ref(early))
	h.SetMark(early, 2, true)
	first := at[:api.Specials]
	w, ok := save.Save(h, first, api.Regs{Proc: late, Frame: at[23], Ready: []int{early}, Wait: []api.Wait{{Sema: at[22], Proc: late}}, Due: []int{late}, Out: "o", In: "i", How: 3, Exit: 4, Snaps: []string{"s"}}, 99)
	if !ok {
		t.Fatal("false")
	}
	want := start.World()
	want.L = append(want.L,
		api.Thing{Class: api.ClassArray, Fmt: api.Plain, Hash: 24, F: []api.Val{obj(26), obj(24)}},
		api.Thing{Class: api.ClassWeak, Fmt: api.Weak, Hash: 25, F: []api.Val{obj(25)}},
		api.Thing{Class: api.ClassText, Fmt: api.Bytes, Hash: 26, B: "abc"},
		api.Thing{Class: api.ClassArray, Fmt: api.Plain, Hash: 30, F: []api.Val{obj(27)}, Final: true},
		api.Thing{Class: api.ClassArray, Fmt: api.Plain, Hash: 41})
	want.Last = 99
	want.R = api.Regs{Proc: 27, Frame: 23, Ready: []int{26}, Wait: []api.Wait{{Sema: 22, Proc: 27}}, Due: []int{27}, Out: "o", In: "i", How: 3, Exit: 4, Snaps: []string{"s"}}
	if !reflect.DeepEqual(emptied(w), emptied(want)) {
		t.Errorf("\n%v\n%v", w, want)
	}
}

// P22.1: what can't be saved.
func TestRefused(t *testing.T) {
	keep := func(at []int) api.Regs { return api.Regs{Frame: at[23], Proc: at[27]} }
	for what, turn := range map[string]func(h *heap.Heap, at []int, first *[]int, r *api.Regs, last *int){
		"too few":         func(h *heap.Heap, at []int, first *[]int, r *api.Regs, last *int) { *first = at[:22] },
		"too many":        func(h *heap.Heap, at []int, first *[]int, r *api.Regs, last *int) { *first = at[:24] },
		"none":            func(h *heap.Heap, at []int, first *[]int, r *api.Regs, last *int) { *first = nil },
		"0 first":         func(h *heap.Heap, at []int, first *[]int, r *api.Regs, last *int) { (*first)[22] = 0 },
		"no object first": func(h *heap.Heap, at []int, first *[]int, r *api.Regs, last *int) { (*first)[22]++ },
		"first twice":     func(h *heap.Heap, at []int, first *[]int, r *api.Regs, last *int) { (*first)[21] = at[20] },
		"first turned": func(h *heap.Heap, at []int, first *[]int, r *api.Regs, last *int) {
			(*first)[20], (*first)[21] = at[21], at[20]
		},
		"frame":     func(h *heap.Heap, at []int, first *[]int, r *api.Regs, last *int) { r.Frame = 2 },
		"proc":      func(h *heap.Heap, at []int, first *[]int, r *api.Regs, last *int) { r.Proc = -1 },
		"ready 0":   func(h *heap.Heap, at []int, first *[]int, r *api.Regs, last *int) { r.Ready = []int{0} },
		"ready":     func(h *heap.Heap, at []int, first *[]int, r *api.Regs, last *int) { r.Ready = []int{1001} },
		"ready Nil": func(h *heap.Heap, at []int, first *[]int, r *api.Regs, last *int) { r.Ready = []int{at[0]} },
		"wait 0": func(h *heap.Heap, at []int, first *[]int, r *api.Regs, last *int) {
			r.Wait = []api.Wait{{Sema: at[22]}}
		},
		"wait": func(h *heap.Heap, at []int, first *[]int, r *api.Regs, last *int) {
			r.Wait = []api.Wait{{Sema: 2, Proc: at[23]}}
		},
		"due":         func(h *heap.Heap, at []int, first *[]int, r *api.Regs, last *int) { r.Due = []int{at[23], math.MaxInt} },
		"due twice":   func(h *heap.Heap, at []int, first *[]int, r *api.Regs, last *int) { r.Due = []int{at[23], at[23]} },
		"how":         func(h *heap.Heap, at []int, first *[]int, r *api.Regs, last *int) { r.How = 5 },
		"last":        func(h *heap.Heap, at []int, first *[]int, r *api.Regs, last *int) { *last = 20 },
		"last beyond": func(h *heap.Heap, at []int, first *[]int, r *api.Regs, last *int) { *last = api.MaxObjects + 1 },
		"big number": func(h *heap.Heap, at []int, first *[]int, r *api.Regs, last *int) {
			h.SetField(at[23], 0, word.Int(api.MaxInt))
		},
		"small number": func(h *heap.Heap, at []int, first *[]int, r *api.Regs, last *int) {
			h.SetField(at[23], 0, word.Int(-api.MaxInt-1))
		},
		"place 0": func(h *heap.Heap, at []int, first *[]int, r *api.Regs, last *int) { h.SetField(at[23], 0, 0) },
		"place within": func(h *heap.Heap, at []int, first *[]int, r *api.Regs, last *int) {
			h.SetField(at[24], 0, word.Ref(at[23]+1))
		},
		"weak": func(h *heap.Heap, at []int, first *[]int, r *api.Regs, last *int) {
			h.SetField(at[24], 0, word.Ref(999))
		},
		"class 0":  func(h *heap.Heap, at []int, first *[]int, r *api.Regs, last *int) { h.SetClass(at[25], 0) },
		"no class": func(h *heap.Heap, at []int, first *[]int, r *api.Regs, last *int) { h.SetClass(at[25], at[23]) },
		"dropped":  func(h *heap.Heap, at []int, first *[]int, r *api.Regs, last *int) { h.Drop(at[25]) },
		"same hash": func(h *heap.Heap, at []int, first *[]int, r *api.Regs, last *int) {
			p, _ := h.Make(api.Plain, 0, at[api.ClassArray], 25)
			r.Due = []int{p}
		},
		"hash 0": func(h *heap.Heap, at []int, first *[]int, r *api.Regs, last *int) {
			p, _ := h.Make(api.Plain, 0, at[api.ClassArray], 0)
			r.Due = []int{p}
		},
	} {
		h, at := small(t)
		first, r, last := slices.Clone(at[:api.Specials]), keep(at), 50
		turn(h, at, &first, &r, &last)
		if w, ok := save.Save(h, first, r, last); ok || !reflect.DeepEqual(w, api.World{}) {
			t.Errorf("%s: saved", what)
		}
	}
	h, at := small(t)
	for _, x := range []uint32{word.Int(api.MaxInt - 1), word.Int(-api.MaxInt), word.Ref(at[0])} {
		h.SetField(at[23], 0, x)
		if _, ok := save.Save(h, at[:api.Specials], keep(at), 50); !ok {
			t.Errorf("%x is not saved", x)
		}
	}
	// what can't be come to is not asked
	h.SetField(at[23], 1, word.Int(0))
	h.SetField(at[24], 0, 0)
	if _, ok := save.Save(h, at[:api.Specials], keep(at), 50); !ok {
		t.Error("what can't be come to")
	}
	if _, ok := save.Save(h, at[:api.Specials], api.Regs{Proc: at[0]}, 50); !ok {
		t.Error("Nil is told as none")
	}
	if _, ok := save.Save(heap.New(0), at[:api.Specials], api.Regs{}, 50); ok {
		t.Error("of an empty heap")
	}
}
