package image

import (
	"colloquy/api"
	"colloquy/word"
)

// How many bytes a number has, and a Wait, which is two.
const (
	numberLen = 4
	waitLen   = 2 * numberLen
)

// reader reads bytes from the front on.
type reader struct {
	b  []byte
	at int
}

// Get is bytes as a world.
func Get(b []byte) (api.World, api.Errno) {
	var w api.World
	r := reader{b: b}
	err := api.ErrBig
	if len(b) > api.MaxFile {
		goto wrong
	}
	if err = r.begin(); err != api.OK {
		goto wrong
	}
	if w.L, err = r.things(); err != api.OK {
		goto wrong
	}
	if w.R, err = r.regs(); err != api.OK {
		goto wrong
	}
	if w.Last, err = r.number(); err != api.OK {
		goto wrong
	}
	err = api.ErrBytes
	if r.left() > 0 {
		goto wrong
	}
	err = api.ErrImage
	if !Check(w) {
		goto wrong
	}
	return w, api.OK
wrong:
	return api.World{}, err
}

// left is how many bytes are still to be read.
func (r *reader) left() int { return len(r.b) - r.at }

// begin reads what an image begins with.
func (r *reader) begin() api.Errno {
	there := min(len(mark), r.left())
	if string(r.b[:there]) != mark[:there] {
		return api.ErrBytes
	}
	if there < len(mark) {
		return api.ErrShort
	}
	r.at = there
	return api.OK
}

// number reads four bytes.
func (r *reader) number() (int, api.Errno) {
	if r.left() < numberLen {
		return 0, api.ErrShort
	}
	n := 0
	for _, x := range r.b[r.at : r.at+numberLen] {
		n = n<<8 | int(x)
	}
	r.at += numberLen
	return n, api.OK
}

// count reads how many there are of what has at least so many bytes each.
func (r *reader) count(each int) (int, api.Errno) {
	n, err := r.number()
	if err != api.OK {
		return 0, err
	}
	if n*each > r.left() {
		return 0, api.ErrShort
	}
	return n, api.OK
}

func (r *reader) things() ([]api.Thing, api.Errno) {
	n, err := r.count(1)
	if err != api.OK {
		return nil, err
	}
	var l []api.Thing
	for range n {
		t, err := r.thing()
		if err != api.OK {
			return nil, err
		}
		l = append(l, t)
	}
	return l, api.OK
}

func (r *reader) thing() (api.Thing, api.Errno) {
	var t api.Thing
	var err api.Errno
	if t.Class, err = r.number(); err != api.OK {
		goto wrong
	}
	if t.Fmt, err = r.number(); err != api.OK {
		goto wrong
	}
	t.Final, t.Fmt = t.Fmt&final != 0, t.Fmt&^final
	if t.Fmt < api.Plain || t.Fmt > api.Bytes {
		err = api.ErrBytes
		goto wrong
	}
	if t.Hash, err = r.number(); err != api.OK {
		goto wrong
	}
	if t.Fmt == api.Bytes {
		t.B, err = r.text()
	} else {
		t.F, err = r.fields()
	}
	if err != api.OK {
		goto wrong
	}
	return t, api.OK
wrong:
	return api.Thing{}, err
}

func (r *reader) text() (string, api.Errno) {
	n, err := r.count(1)
	if err != api.OK {
		return "", err
	}
	s := string(r.b[r.at : r.at+n])
	r.at += n
	return s, api.OK
}

func (r *reader) fields() ([]api.Val, api.Errno) {
	n, err := r.count(numberLen)
	if err != api.OK {
		return nil, err
	}
	var l []api.Val
	for range n {
		x, err := r.number()
		if err != api.OK {
			return nil, err
		}
		l = append(l, valueOf(uint32(x)))
	}
	return l, api.OK
}

// valueOf is 32 bits as a field.
func valueOf(w uint32) api.Val {
	if word.IsInt(w) {
		return api.Val{N: word.IntOf(w)}
	}
	return api.Val{Obj: true, N: word.RefOf(w)}
}

func (r *reader) regs() (api.Regs, api.Errno) {
	var x api.Regs
	var err api.Errno
	if x.Proc, err = r.number(); err != api.OK {
		goto wrong
	}
	if x.Frame, err = r.number(); err != api.OK {
		goto wrong
	}
	if x.Ready, err = r.places(); err != api.OK {
		goto wrong
	}
	if x.Wait, err = r.waits(); err != api.OK {
		goto wrong
	}
	if x.Due, err = r.places(); err != api.OK {
		goto wrong
	}
	return x, api.OK
wrong:
	return api.Regs{}, err
}

func (r *reader) places() ([]int, api.Errno) {
	n, err := r.count(numberLen)
	if err != api.OK {
		return nil, err
	}
	var l []int
	for range n {
		at, err := r.number()
		if err != api.OK {
			return nil, err
		}
		l = append(l, at)
	}
	return l, api.OK
}

func (r *reader) waits() ([]api.Wait, api.Errno) {
	n, err := r.count(waitLen)
	if err != api.OK {
		return nil, err
	}
	var l []api.Wait
	for range n {
		sema, err := r.number()
		if err != api.OK {
			return nil, err
		}
		proc, err := r.number()
		if err != api.OK {
			return nil, err
		}
		l = append(l, api.Wait{Sema: sema, Proc: proc})
	}
	return l, api.OK
}
