package image_test

import (
	"bytes"
	"math"
	"math/rand"
	"reflect"
	"strings"
	"testing"

	"colloquy/api"
	"colloquy/image"
	"colloquy/kit"
	"colloquy/start"
)

var obj, num = kit.Obj, kit.Num

// small is the first world with one more thing of each format, and a class of its own.
func small() api.World {
	w := start.World()
	class := kit.Class(&w, api.ClassArray, api.Nil, 2, api.Plain) // 23
	kit.Plain(&w, class, num(-5), obj(26))                        // 24
	kit.Weak(&w, obj(24))                                         // 25
	kit.Bytes(&w, api.ClassText, "abc")                           // 26
	kit.Sema(&w, 1)                                               // 27
	w.L[24].Final = true
	w.Last = 40
	return w
}

// P7.1: the first world, and more, may be.
func TestMayBe(t *testing.T) {
	for _, w := range []api.World{start.World(), small()} {
		if !image.Check(w) {
			t.Error("Check says no")
		}
	}
	r := rand.New(rand.NewSource(1))
	for range 300 {
		if !image.Check(kit.Any(r.Intn, r.Intn(30))) {
			t.Fatal("Check says no")
		}
	}
}

func repeat[T any](v T, n int) []T {
	l := make([]T, n)
	for i := range l {
		l[i] = v
	}
	return l
}

// P7.1: of what may be, the farthest.
func TestEdges(t *testing.T) {
	for name, turn := range map[string]func(w *api.World){
		"fields":      func(w *api.World) { w.L[24].F = repeat(num(1), api.MaxFields) },
		"weak fields": func(w *api.World) { w.L[25].F = repeat(obj(0), api.MaxFields) },
		"bytes":       func(w *api.World) { w.L[26].B = strings.Repeat("x", api.MaxBytes) },
		"greatest":    func(w *api.World) { w.L[24].F[0] = num(api.MaxInt - 1) },
		"least":       func(w *api.World) { w.L[24].F[0] = num(-api.MaxInt) },
		"hash":        func(w *api.World) { w.L[27].Hash, w.Last = api.MaxObjects, api.MaxObjects },
		"last":        func(w *api.World) { w.Last = w.L[27].Hash },
		"last high":   func(w *api.World) { w.Last = api.MaxObjects },
		"none dead":   func(w *api.World) { w.Dead = make([]bool, len(w.L)) },
		"dead":        func(w *api.World) { w.Dead = make([]bool, len(w.L)); w.Dead[25] = true },
		"dead of dead": func(w *api.World) {
			w.Dead = make([]bool, len(w.L))
			w.Dead[23], w.Dead[24], w.Dead[25] = true, true, true
		},
		"dead no class":  func(w *api.World) { w.Dead = make([]bool, len(w.L)); w.Dead[25] = true; w.L[25].Class = 27 },
		"class sizes":    func(w *api.World) { w.L[23].F[3] = num(api.MaxFields) },
		"class size 0":   func(w *api.World) { w.L[23].F[3] = num(0) },
		"class format":   func(w *api.World) { w.L[23].F[4] = num(api.Bytes) },
		"class long":     func(w *api.World) { w.L[23].F = append(w.L[23].F, num(1)) },
		"nil weak":       func(w *api.World) { w.L[0].Fmt = api.Weak },
		"sema no fields": func(w *api.World) { w.L[22].F = nil },
		"how":            func(w *api.World) { w.R.How, w.R.Exit = api.Full, 255 },
		"queues": func(w *api.World) {
			w.R.Ready = repeat(24, api.MaxQueue)
			w.R.Wait = repeat(api.Wait{Sema: 1, Proc: 27}, api.MaxQueue)
		},
		"due":       func(w *api.World) { w.R.Due = []int{24, 1, 25, 27} },
		"texts":     func(w *api.World) { w.R.Out = strings.Repeat("o", api.MaxText); w.R.In = w.R.Out },
		"snaps":     func(w *api.World) { w.R.Snaps = repeat(strings.Repeat("s", api.MaxFile), api.MaxQueue) },
		"registers": func(w *api.World) { w.R.Proc, w.R.Frame = 27, 1 },
	} {
		w := small()
		turn(&w)
		if !image.Check(w) {
			t.Errorf("%s: Check says no", name)
		}
	}
}

// P7.1: what may not be.
func TestMayNotBe(t *testing.T) {
	kill := func(at int) func(w *api.World) {
		return func(w *api.World) { w.Dead = make([]bool, len(w.L)); w.Dead[at] = true }
	}
	for name, turn := range map[string]func(w *api.World){
		"none":               func(w *api.World) { *w = api.World{} },
		"too few":            func(w *api.World) { w.L = w.L[:22] },
		"dead short":         func(w *api.World) { w.Dead = make([]bool, len(w.L)-1) },
		"dead long":          func(w *api.World) { w.Dead = make([]bool, len(w.L)+1) },
		"class below":        func(w *api.World) { w.L[24].Class = -1 },
		"class beyond":       func(w *api.World) { w.L[24].Class = 28 },
		"no class":           func(w *api.World) { w.L[24].Class = 27 },
		"format 0":           func(w *api.World) { w.L[26].Fmt = 0; w.L[26].B = "" },
		"format 4":           func(w *api.World) { w.L[26].Fmt = 4; w.L[26].B = "" },
		"hash again":         func(w *api.World) { w.L[25].Hash = w.L[24].Hash },
		"hash below":         func(w *api.World) { w.L[25].Hash = 1 },
		"hash 0":             func(w *api.World) { w.L[0].Hash = 0 },
		"hash beyond":        func(w *api.World) { w.L[27].Hash = api.MaxObjects + 1; w.Last = api.MaxObjects + 1 },
		"fields":             func(w *api.World) { w.L[24].F = repeat(num(1), api.MaxFields+1) },
		"weak fields":        func(w *api.World) { w.L[25].F = repeat(num(1), api.MaxFields+1) },
		"bytes":              func(w *api.World) { w.L[26].B = strings.Repeat("x", api.MaxBytes+1) },
		"bytes of plain":     func(w *api.World) { w.L[24].B = "x" },
		"bytes of weak":      func(w *api.World) { w.L[25].B = "x" },
		"fields of bytes":    func(w *api.World) { w.L[26].F = []api.Val{num(1)} },
		"field beyond":       func(w *api.World) { w.L[24].F[1] = obj(28) },
		"field below":        func(w *api.World) { w.L[25].F[0] = obj(-1) },
		"greatest":           func(w *api.World) { w.L[24].F[0] = num(api.MaxInt) },
		"least":              func(w *api.World) { w.L[24].F[0] = num(-api.MaxInt - 1) },
		"dead first":         kill(0),
		"dead last first":    kill(22),
		"dead class":         kill(23),
		"dead field":         kill(26),
		"dead weak field":    kill(24),
		"dead field of all":  func(w *api.World) { kill(24)(w); w.L[27].F[0] = obj(24); w.L[25].F[0] = num(0) },
		"class 28 of a dead": func(w *api.World) { kill(25)(w); w.L[25].Class = 28 },
		"class -1 of a dead": func(w *api.World) { kill(25)(w); w.L[25].Class = -1 },
		"field 28 of a dead": func(w *api.World) { kill(25)(w); w.L[25].F[0] = obj(28) },
		"field -1 of a dead": func(w *api.World) { kill(25)(w); w.L[25].F[0] = obj(-1) },
		"number of a dead":   func(w *api.World) { kill(25)(w); w.L[25].F[0] = num(api.MaxInt) },
		"format of a dead":   func(w *api.World) { kill(25)(w); w.L[25].Fmt = 0 },
		"hash of a dead":     func(w *api.World) { kill(25)(w); w.L[25].Hash = w.L[24].Hash },
		"class weak":         func(w *api.World) { w.L[23].Fmt = api.Weak },
		"class short":        func(w *api.World) { w.L[23].F = w.L[23].F[:4] },
		"class size":         func(w *api.World) { w.L[23].F[3] = num(api.MaxFields + 1) },
		"class size below":   func(w *api.World) { w.L[23].F[3] = num(-1) },
		"class size thing":   func(w *api.World) { w.L[23].F[3] = obj(0) },
		"class format 0":     func(w *api.World) { w.L[23].F[4] = num(0) },
		"class format 4":     func(w *api.World) { w.L[23].F[4] = num(4) },
		"class format obj":   func(w *api.World) { w.L[23].F[4] = obj(1) },
		"nil's class":        func(w *api.World) { w.L[0].Class = api.ClassTrue },
		"true's class":       func(w *api.World) { w.L[1].Class = api.ClassFalse },
		"false's class":      func(w *api.World) { w.L[2].Class = api.ClassNil },
		"3's class":          func(w *api.World) { w.L[3].Class = 23 },
		"18's class":         func(w *api.World) { w.L[18].Class = 23 },
		"19 plain":           func(w *api.World) { w.L[19].Fmt = api.Plain; w.L[19].B = "" },
		"21 weak":            func(w *api.World) { w.L[21].Fmt = api.Weak; w.L[21].B = "" },
		"22 weak":            func(w *api.World) { w.L[22].Fmt = api.Weak },
		"22 bytes":           func(w *api.World) { w.L[22].Fmt = api.Bytes; w.L[22].F = nil },
		"proc beyond":        func(w *api.World) { w.R.Proc = 28 },
		"proc below":         func(w *api.World) { w.R.Proc = -1 },
		"proc dead":          func(w *api.World) { kill(25)(w); w.R.Proc = 25 },
		"frame beyond":       func(w *api.World) { w.R.Frame = math.MaxInt },
		"frame dead":         func(w *api.World) { kill(25)(w); w.R.Frame = 25 },
		"ready 0":            func(w *api.World) { w.R.Ready = []int{0} },
		"ready beyond":       func(w *api.World) { w.R.Ready = []int{24, 28} },
		"ready dead":         func(w *api.World) { kill(25)(w); w.R.Ready = []int{25} },
		"wait sema 0":        func(w *api.World) { w.R.Wait = []api.Wait{{Sema: 0, Proc: 24}} },
		"wait proc 0":        func(w *api.World) { w.R.Wait = []api.Wait{{Sema: 24, Proc: 0}} },
		"wait beyond":        func(w *api.World) { w.R.Wait = []api.Wait{{Sema: 24, Proc: 28}} },
		"wait below":         func(w *api.World) { w.R.Wait = []api.Wait{{Sema: -1, Proc: 24}} },
		"wait dead":          func(w *api.World) { kill(25)(w); w.R.Wait = []api.Wait{{Sema: 25, Proc: 24}} },
		"due 0":              func(w *api.World) { w.R.Due = []int{0} },
		"due twice":          func(w *api.World) { w.R.Due = []int{24, 25, 24} },
		"due beyond":         func(w *api.World) { w.R.Due = []int{28} },
		"due dead":           func(w *api.World) { kill(25)(w); w.R.Due = []int{25} },
		"many ready":         func(w *api.World) { w.R.Ready = repeat(24, api.MaxQueue+1) },
		"many wait":          func(w *api.World) { w.R.Wait = repeat(api.Wait{Sema: 1, Proc: 27}, api.MaxQueue+1) },
		"last below":         func(w *api.World) { w.Last = w.L[27].Hash - 1 },
		"last beyond":        func(w *api.World) { w.Last = api.MaxObjects + 1 },
		"out":                func(w *api.World) { w.R.Out = strings.Repeat("o", api.MaxText+1) },
		"in":                 func(w *api.World) { w.R.In = strings.Repeat("i", api.MaxText+1) },
		"how below":          func(w *api.World) { w.R.How = -1 },
		"how beyond":         func(w *api.World) { w.R.How = 5 },
		"exit below":         func(w *api.World) { w.R.Exit = -1 },
		"exit beyond":        func(w *api.World) { w.R.Exit = 256 },
		"many snaps":         func(w *api.World) { w.R.Snaps = repeat("", api.MaxQueue+1) },
		"long snap":          func(w *api.World) { w.R.Snaps = []string{"", strings.Repeat("s", api.MaxFile+1)} },
	} {
		w := small()
		turn(&w)
		if image.Check(w) {
			t.Errorf("%s: Check says yes", name)
		}
		if b, err := image.Put(w); b != nil || err != api.ErrArg {
			t.Errorf("%s: Put says %d", name, err)
		}
	}
}

// P7.1: how many things there may be.
func TestHowMany(t *testing.T) {
	w := start.World()
	for len(w.L) < api.MaxObjects {
		kit.Plain(&w, api.ClassArray)
	}
	if !image.Check(w) {
		t.Error("MaxObjects things")
	}
	w.R.Due = nil
	for at := 1; at < len(w.L); at++ {
		w.R.Due = append(w.R.Due, at)
	}
	if !image.Check(w) {
		t.Error("as many due")
	}
	kit.Plain(&w, api.ClassArray)
	if image.Check(w) {
		t.Error("one thing more")
	}
}

func number(n int) []byte { return []byte{byte(n >> 24), byte(n >> 16), byte(n >> 8), byte(n)} }

func join(l ...any) []byte {
	var b []byte
	for _, x := range l {
		switch x := x.(type) {
		case int:
			b = append(b, number(x)...)
		case string:
			b = append(b, x...)
		case []byte:
			b = append(b, x...)
		}
	}
	return b
}

// P7.2: the bytes, one by one.
func TestBytes(t *testing.T) {
	w := small()
	w.R = api.Regs{Proc: 24, Frame: 25, Ready: []int{26, 27}, Wait: []api.Wait{{Sema: 22, Proc: 24}}, Due: []int{27}, Out: "o", In: "i", How: 2, Exit: 3, Snaps: []string{"s"}}
	want := join([]byte{0x43, 0x51, 0x31}, 28)
	for at := range 23 {
		x := w.L[at]
		want = join(want, x.Class, x.Fmt, at+1, len(x.F)+len(x.B), x.B)
		if at >= 3 && at <= 18 {
			want = join(want, 0, 0, 0, 2*x.F[3].N+1, 2*x.F[4].N+1)
		}
		if at == 22 {
			want = join(want, 1)
		}
	}
	want = join(want, 10, 1, 24, 5, 14, 0, 0, 5, 3)
	want = join(want, 23, 5, 25, 2, -9, 52)
	want = join(want, 16, 2, 26, 1, 48)
	want = join(want, 8, 3, 27, 3, "abc")
	want = join(want, 15, 1, 28, 1, 3)
	want = join(want, 24, 25, 2, 26, 27, 1, 22, 24, 1, 27, 40)
	got, err := image.Put(w)
	if err != api.OK || !bytes.Equal(got, want) {
		t.Errorf("%d\n%x\n%x", err, got, want)
	}
}

// P7.2: something dead, and too many bytes.
func TestPutRefused(t *testing.T) {
	w := small()
	w.Dead = make([]bool, len(w.L))
	if _, err := image.Put(w); err != api.OK {
		t.Error("nothing is dead")
	}
	w.Dead[25] = true
	if b, err := image.Put(w); b != nil || err != api.ErrArg {
		t.Error("something is dead")
	}
	w = start.World()
	b, _ := image.Put(w)
	for api.MaxFile-len(b) >= 116+16 {
		kit.Bytes(&w, api.ClassText, strings.Repeat("x", 100))
		b, _ = image.Put(w)
	}
	rest := api.MaxFile - len(b) - 16
	if rest < 0 {
		t.Fatal("no room for the last one")
	}
	at := kit.Bytes(&w, api.ClassText, strings.Repeat("x", rest))
	b, err := image.Put(w)
	if len(b) != api.MaxFile || err != api.OK {
		t.Errorf("MaxFile bytes: %d, %d", len(b), err)
	}
	if _, err := image.Get(b); err != api.OK {
		t.Errorf("MaxFile bytes, read: %d", err)
	}
	w.L[at].B += "x"
	if b, err := image.Put(w); b != nil || err != api.ErrBig {
		t.Errorf("one more: %d, %d", len(b), err)
	}
	w.R.How = 9
	if _, err := image.Put(w); err != api.ErrArg {
		t.Errorf("what may not be, and is too big: %d", err)
	}
}

func get(t *testing.T, what string, b []byte, want api.Errno) {
	t.Helper()
	w, err := image.Get(b)
	if err != want {
		t.Errorf("%s: error %d, not %d", what, err, want)
	}
	if err != api.OK && !reflect.DeepEqual(w, api.World{}) {
		t.Errorf("%s: a world with an error", what)
	}
}

// P7.3: what begins or ends wrong.
func TestGetEnds(t *testing.T) {
	b, _ := image.Put(small())
	get(t, "all", b, api.OK)
	for n := range b {
		get(t, "cut", b[:n], api.ErrShort)
	}
	get(t, "nil", nil, api.ErrShort)
	get(t, "one more", append(bytes.Clone(b), 0), api.ErrBytes)
	get(t, "first byte", []byte{0x44}, api.ErrBytes)
	get(t, "second byte", []byte{0x43, 0x50}, api.ErrBytes)
	get(t, "third byte", []byte{0x43, 0x51, 0x32}, api.ErrBytes)
	get(t, "too big", make([]byte, api.MaxFile+1), api.ErrBig)
	get(t, "big", make([]byte, api.MaxFile), api.ErrBytes)
}

// P7.3: counts that say more than there is, as soon as they are read.
func TestGetCounts(t *testing.T) {
	mark := "CQ1"
	get(t, "things", join(mark, 4, "abc"), api.ErrShort)
	get(t, "many things", join(mark, -1, "abc"), api.ErrShort)
	// a Fmt that is none lies behind: the count is read first
	get(t, "things ahead of a format", join(mark, 17, 0, 9, 0, 0), api.ErrShort)
	get(t, "a format", join(mark, 16, 0, 9, 0, 0), api.ErrBytes)
	get(t, "a format, and no more", join(mark, 8, 0, 9), api.ErrBytes)
	for _, f := range []int{0, 4, 8, 9, 257, -1} {
		get(t, "a format", join(mark, 1, 0, f, 1, 0), api.ErrBytes)
	}
	for _, f := range []int{1, 2, 3, 5, 6, 7} {
		get(t, "a format", join(mark, 1, 0, f, 1, 0), api.ErrShort)
	}
	get(t, "bytes", join(mark, 1, 0, 3, 1, 5, "abcd"), api.ErrShort)
	get(t, "fields", join(mark, 2, 0, 1, 1, 2, 1, "abc"), api.ErrShort)
	// the fields are counted as four bytes each: what is behind is not looked at
	get(t, "fields ahead of a format", join(mark, 2, 0, 1, 1, 4, 1, 0, 9), api.ErrShort)
	get(t, "a format behind fields", join(mark, 2, 0, 1, 1, 1, 1, 0, 9), api.ErrBytes)
	get(t, "ready", join(mark, 0, 0, 0, 2, 1, "abc"), api.ErrShort)
	get(t, "waits", join(mark, 0, 0, 0, 0, 1, 1, "abc"), api.ErrShort)
	get(t, "due", join(mark, 0, 0, 0, 0, 0, 1, "abc"), api.ErrShort)
	get(t, "many waits", join(mark, 0, 0, 0, 0, 1<<29, 0, 0, 0), api.ErrShort)
	get(t, "no things", join(mark, 0, 0, 0, 0, 0, 0, 0), api.ErrImage)
	get(t, "no things, and more", join(mark, 0, 0, 0, 0, 0, 0, 0, "x"), api.ErrBytes)
}

// P7.3: what makes no image.
func TestGetNoImage(t *testing.T) {
	good, _ := image.Put(small())
	at := bytes.Index(good, join(23, 5, 25, 2, -9, 52))
	for name, field := range map[string]int{"beyond": 56, "greatest": 2*api.MaxInt + 1, "far": -2} {
		b := bytes.Clone(good)
		copy(b[at+20:], number(field))
		get(t, name, b, api.ErrImage)
	}
	b := bytes.Clone(good)
	copy(b[at+20:], number(2*api.MaxInt-1))
	get(t, "a number that fits", b, api.OK)
	b = bytes.Clone(good)
	copy(b[at:], number(27))
	get(t, "no class", b, api.ErrImage)
}

// P7.4: a copy has no memory in common.
func TestCopy(t *testing.T) {
	r := rand.New(rand.NewSource(3))
	for range 50 {
		seed := r.Int63()
		world := func() api.World {
			r := rand.New(rand.NewSource(seed))
			w := kit.Any(r.Intn, r.Intn(20))
			w.Dead = make([]bool, len(w.L))
			return w
		}
		w := world()
		c := image.Copy(w)
		if !reflect.DeepEqual(w, c) {
			t.Fatal("a copy is another one")
		}
		back := world()
		for i := range w.L {
			w.L[i].Hash = 0
			for j := range w.L[i].F {
				w.L[i].F[j] = num(77)
			}
			w.Dead[i] = true
		}
		for _, l := range [][]int{w.R.Ready, w.R.Due} {
			for i := range l {
				l[i] = 1
			}
		}
		for i := range w.R.Wait {
			w.R.Wait[i] = api.Wait{}
			w.R.Snaps[i] = "turned"
		}
		if !reflect.DeepEqual(back, c) {
			t.Fatal("a copy is turned")
		}
	}
	image.Copy(api.World{})
}

// P7.4: what is put is got; what is got is put byte for byte.
func TestPutIsGot(t *testing.T) {
	r := rand.New(rand.NewSource(2))
	for range 300 {
		w := kit.Any(r.Intn, r.Intn(30))
		b, err := image.Put(w)
		if err != api.OK {
			t.Fatal(err)
		}
		got, err := image.Get(b)
		if err != api.OK {
			t.Fatal(err)
		}
		w.R.Out, w.R.In, w.R.How, w.R.Exit, w.R.Snaps = "", "", 0, 0, nil
		again, err := image.Put(got)
		if err != api.OK || !bytes.Equal(b, again) {
			t.Fatal("other bytes")
		}
		for i := range w.L {
			if len(w.L[i].F) == 0 {
				w.L[i].F = nil
			}
		}
		if len(got.Dead) != 0 || !reflect.DeepEqual(w, got) {
			t.Fatalf("another world\n%v\n%v", w, got)
		}
		b[r.Intn(len(b))] ^= byte(1 + r.Intn(255)) // whatever it is, it ends
		if w, err := image.Get(b); err == api.OK {
			if again, _ := image.Put(w); !bytes.Equal(b, again) {
				t.Fatal("other bytes of what was got")
			}
		}
	}
}

// R3: what is handed in is not turned.
func TestHandedIn(t *testing.T) {
	w := small()
	b, _ := image.Put(w)
	c := bytes.Clone(b)
	got, _ := image.Get(b)
	for i := range b {
		b[i] = 0
	}
	again, _ := image.Put(got)
	if !bytes.Equal(again, c) || !reflect.DeepEqual(w, small()) {
		t.Error("turned")
	}
}
