package heap_test

import (
	"math"
	"math/rand"
	"testing"

	"colloquy/api"
	"colloquy/heap"
	"colloquy/word"
)

// P5.1: the chapter's example.
func TestExample(t *testing.T) {
	h := heap.New(10)
	if at, ok := h.Make(api.Plain, 2, 0, 1); at != 1 || !ok {
		t.Fatalf("the first one: %d, %v", at, ok)
	}
	if at, ok := h.Make(api.Bytes, 5, 0, 2); at != 6 || !ok {
		t.Fatalf("the second one: %d, %v", at, ok)
	}
	if used, all := h.Words(); used != 10 || all != 10 {
		t.Errorf("%d of %d words", used, all)
	}
	if at, ok := h.Make(api.Plain, 0, 0, 3); at != 0 || ok {
		t.Errorf("where there is no room: %d, %v", at, ok)
	}
	if !h.Drop(1) || h.Has(1) || h.Drop(1) {
		t.Error("Drop")
	}
	if at, ok := h.Make(api.Plain, 3, 0, 3); at != 0 || ok {
		t.Errorf("more than what was dropped: %d, %v", at, ok)
	}
	if at, ok := h.Make(api.Weak, 2, 0, 3); at != 1 || !ok {
		t.Errorf("what was dropped: %d, %v", at, ok)
	}
}

// P5.1: how many words there are.
func TestNew(t *testing.T) {
	for _, x := range []struct{ n, want int }{{0, 0}, {-1, 0}, {math.MinInt, 0}, {7, 7}, {api.MaxWords, api.MaxWords}, {api.MaxWords + 1, api.MaxWords}, {math.MaxInt, api.MaxWords}} {
		if used, all := heap.New(x.n).Words(); used != 0 || all != x.want {
			t.Errorf("New(%d): %d of %d", x.n, used, all)
		}
	}
}

// P5.1: what may be made, and how much of it.
func TestMakeLimits(t *testing.T) {
	for _, x := range []struct {
		fmt, n, class, hash int
		ok                  bool
		words               int
	}{
		{api.Plain, 0, 0, 0, true, 3},
		{api.Plain, api.MaxFields, 0, 0, true, 63},
		{api.Weak, api.MaxFields, api.MaxWords, api.MaxObjects, true, 63},
		{api.Bytes, 0, 0, 0, true, 3},
		{api.Bytes, 1, 0, 0, true, 4},
		{api.Bytes, 4, 0, 0, true, 4},
		{api.Bytes, 5, 0, 0, true, 5},
		{api.Bytes, api.MaxBytes, 0, 0, true, 53},
		{api.Bytes, 61, 0, 0, true, 19},
		{0, 0, 0, 0, false, 0},
		{4, 0, 0, 0, false, 0},
		{-1, 0, 0, 0, false, 0},
		{api.Plain, -1, 0, 0, false, 0},
		{api.Plain, api.MaxFields + 1, 0, 0, false, 0},
		{api.Weak, api.MaxFields + 1, 0, 0, false, 0},
		{api.Bytes, -1, 0, 0, false, 0},
		{api.Bytes, api.MaxBytes + 1, 0, 0, false, 0},
		{api.Plain, math.MaxInt, 0, 0, false, 0},
		{api.Plain, 0, -1, 0, false, 0},
		{api.Plain, 0, api.MaxWords + 1, 0, false, 0},
		{api.Plain, 0, 0, -1, false, 0},
		{api.Plain, 0, 0, api.MaxObjects + 1, false, 0},
	} {
		h := heap.New(100)
		at, ok := h.Make(x.fmt, x.n, x.class, x.hash)
		used, _ := h.Words()
		if ok != x.ok || used != x.words || ok && at != 1 || !ok && at != 0 {
			t.Errorf("Make(%d, %d, %d, %d): %d, %v, %d words", x.fmt, x.n, x.class, x.hash, at, ok, used)
		}
		if ok && (h.Class(at) != x.class || h.Hash(at) != x.hash || h.Fmt(at) != x.fmt || h.Size(at) != x.n) {
			t.Errorf("Make(%d, %d, %d, %d) has %d, %d, %d, %d", x.fmt, x.n, x.class, x.hash, h.Fmt(at), h.Size(at), h.Class(at), h.Hash(at))
		}
	}
}

// P5.1: what is made is new, where others have been, too.
func TestMadeIsNew(t *testing.T) {
	h := heap.New(20)
	a, _ := h.Make(api.Plain, 4, 0, 0)
	for i := range 4 {
		h.SetField(a, i, math.MaxUint32)
	}
	h.SetMark(a, 2, true)
	h.Drop(a)
	a, _ = h.Make(api.Plain, 4, 0, 0)
	for i := range 4 {
		if h.Field(a, i) != word.Int(0) {
			t.Errorf("field %d is %x", i, h.Field(a, i))
		}
	}
	if c, f := h.Mark(a); c != 0 || f {
		t.Errorf("mark %d, %v", c, f)
	}
	for i := range 4 {
		h.SetField(a, i, math.MaxUint32)
	}
	h.Drop(a)
	a, _ = h.Make(api.Bytes, 15, 0, 0)
	for i := range 15 {
		if h.Byte(a, i) != 0 {
			t.Errorf("byte %d is %d", i, h.Byte(a, i))
		}
	}
}

// P5.2: of what does not begin an object.
func TestNone(t *testing.T) {
	h := heap.New(20)
	a, _ := h.Make(api.Plain, 4, 5, 6)
	for i := range 4 {
		h.SetField(a, i, 0x00810001|1<<20) // looks like a header
	}
	for _, at := range []int{0, -1, 2, 3, 4, 5, 6, 7, 8, 20, 21, math.MaxInt, math.MinInt} {
		if h.Has(at) || h.Size(at) != -1 || h.Fmt(at) != 0 || h.Class(at) != 0 || h.Hash(at) != -1 || h.Field(at, 0) != 0 || h.Byte(at, 0) != -1 {
			t.Errorf("an object at %d", at)
		}
		if c, f := h.Mark(at); c != 0 || f {
			t.Errorf("a mark at %d", at)
		}
		if h.SetClass(at, 0) || h.SetField(at, 0, 0) || h.SetByte(at, 0, 0) || h.SetMark(at, 0, false) || h.Drop(at) {
			t.Errorf("a turn at %d", at)
		}
	}
	if used, _ := h.Words(); used != 7 {
		t.Errorf("%d words", used)
	}
}

// P5.2: fields of Plain and Weak, bytes of Bytes; each alone.
func TestFieldsAndBytes(t *testing.T) {
	h := heap.New(60)
	p, _ := h.Make(api.Plain, 2, 0, 1)
	w, _ := h.Make(api.Weak, 2, 0, 2)
	b, _ := h.Make(api.Bytes, 6, 0, 3)
	for _, at := range []int{p, w} {
		for _, i := range []int{-1, 2, math.MaxInt, math.MinInt} {
			if h.SetField(at, i, 9) || h.Field(at, i) != 0 {
				t.Errorf("field %d", i)
			}
		}
		if h.SetByte(at, 0, 1) || h.Byte(at, 0) != -1 {
			t.Error("a byte of what has fields")
		}
		if !h.SetField(at, 1, 0xdeadbeef) || h.Field(at, 1) != 0xdeadbeef || h.Field(at, 0) != word.Int(0) {
			t.Error("SetField")
		}
	}
	if h.SetField(b, 0, 9) || h.Field(b, 0) != 0 {
		t.Error("a field of what has bytes")
	}
	for _, i := range []int{-1, 6, 7, math.MaxInt, math.MinInt} {
		if h.SetByte(b, i, 9) || h.Byte(b, i) != -1 {
			t.Errorf("byte %d", i)
		}
	}
	for i, v := range []int{255, 256, -1, 0x1234, 7, math.MinInt} {
		if !h.SetByte(b, i, v) {
			t.Errorf("SetByte(%d)", i)
		}
	}
	for i, v := range []int{255, 0, 255, 0x34, 7, 0} {
		if h.Byte(b, i) != v {
			t.Errorf("byte %d is %d, not %d", i, h.Byte(b, i), v)
		}
	}
}

// Which words are free: those of no object.
func TestFree(t *testing.T) {
	h := heap.New(12)
	h.Make(api.Plain, 1, 0, 0)
	h.Make(api.Plain, 0, 0, 0)
	h.Drop(1)
	for at := -2; at < 15; at++ {
		if want := at >= 1 && at <= 4 || at >= 8 && at <= 12; h.Free(at) != want {
			t.Errorf("Free(%d) is %v", at, !want)
		}
	}
	if h.Free(math.MinInt) || h.Free(math.MaxInt) {
		t.Error("a word beyond is free")
	}
}

// P5.2: classes and marks.
func TestClassAndMark(t *testing.T) {
	h := heap.New(60)
	a, _ := h.Make(api.Weak, 3, 1, 9)
	for _, c := range []int{-1, api.MaxWords + 1, math.MaxInt, math.MinInt} {
		if h.SetClass(a, c) || h.Class(a) != 1 {
			t.Errorf("class %d", c)
		}
	}
	if !h.SetClass(a, api.MaxWords) || h.Class(a) != api.MaxWords || !h.SetClass(a, 0) || h.Class(a) != 0 {
		t.Error("SetClass")
	}
	for _, c := range []int{-1, 3, math.MaxInt, math.MinInt} {
		if h.SetMark(a, c, true) {
			t.Errorf("colour %d", c)
		}
	}
	if c, f := h.Mark(a); c != 0 || f {
		t.Error("a refused mark")
	}
	for c := range 3 {
		for _, final := range []bool{true, false} {
			if !h.SetMark(a, c, final) {
				t.Errorf("colour %d is refused", c)
			}
			if c1, f1 := h.Mark(a); c1 != c || f1 != final {
				t.Errorf("mark %d, %v", c1, f1)
			}
		}
	}
	if h.Size(a) != 3 || h.Fmt(a) != api.Weak || h.Hash(a) != 9 {
		t.Error("a mark turned what else the header says")
	}
}

// P5.3: where objects begin.
func TestNext(t *testing.T) {
	h := heap.New(20)
	if h.Next(0) != 0 || h.Next(-5) != 0 {
		t.Error("Next where there is none")
	}
	for range 5 {
		h.Make(api.Plain, 1, 0, 0)
	}
	h.Drop(9)
	for _, x := range [][2]int{{math.MinInt, 1}, {-1, 1}, {0, 1}, {1, 5}, {4, 5}, {5, 13}, {8, 13}, {9, 13}, {13, 17}, {16, 17}, {17, 0}, {20, 0}, {21, 0}, {math.MaxInt, 0}} {
		if got := h.Next(x[0]); got != x[1] {
			t.Errorf("Next(%d) is %d, not %d", x[0], got, x[1])
		}
	}
	if used, all := h.Words(); used != 16 || all != 20 {
		t.Errorf("%d of %d words", used, all)
	}
}

type thing struct {
	fmt, class, hash, colour int
	final                    bool
	fields                   []uint32
	bytes                    []int
}

func agree(t *testing.T, h *heap.Heap, at int, x *thing) {
	t.Helper()
	if h.Fmt(at) != x.fmt || h.Class(at) != x.class || h.Hash(at) != x.hash || h.Size(at) != len(x.fields)+len(x.bytes) {
		t.Fatalf("object %d is turned", at)
	}
	if c, f := h.Mark(at); c != x.colour || f != x.final {
		t.Fatalf("mark of %d is turned", at)
	}
	for i, w := range x.fields {
		if h.Field(at, i) != w {
			t.Fatalf("field %d of %d is turned", i, at)
		}
	}
	for i, v := range x.bytes {
		if h.Byte(at, i) != v {
			t.Fatalf("byte %d of %d is turned", i, at)
		}
	}
}

// P5.4: an object keeps what it was given, whatever is made and dropped beside it.
func TestKept(t *testing.T) {
	r := rand.New(rand.NewSource(6))
	h := heap.New(700)
	all := map[int]*thing{}
	for range 4000 {
		if r.Intn(3) > 0 {
			x := &thing{fmt: 1 + r.Intn(3), class: r.Intn(700), hash: r.Intn(3001), colour: r.Intn(3), final: r.Intn(2) == 0}
			n := r.Intn(20)
			at, ok := h.Make(x.fmt, n, x.class, x.hash)
			if !ok {
				continue
			}
			if all[at] != nil {
				t.Fatalf("%d is made twice", at)
			}
			all[at] = x
			h.SetMark(at, x.colour, x.final)
			for i := range n {
				if x.fmt == api.Bytes {
					x.bytes = append(x.bytes, r.Intn(256))
					h.SetByte(at, i, x.bytes[i])
				} else {
					x.fields = append(x.fields, r.Uint32())
					h.SetField(at, i, x.fields[i])
				}
			}
		} else {
			at := r.Intn(701)
			for range 5 {
				at = h.Next(at)
			}
			if h.Drop(at) != (all[at] != nil) {
				t.Fatalf("Drop(%d)", at)
			}
			delete(all, at)
		}
		seen := 0
		for at := h.Next(0); at != 0; at = h.Next(at) {
			seen++
			if all[at] == nil {
				t.Fatalf("an object at %d", at)
			}
			agree(t, h, at, all[at])
		}
		if seen != len(all) {
			t.Fatalf("%d objects, not %d", seen, len(all))
		}
	}
}
