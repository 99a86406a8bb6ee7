package image

import (
	"slices"

	"colloquy/api"
	"colloquy/word"
)

// What an image begins with, and what is added to the format of a thing that is Final.
const (
	mark  = "CQ1"
	final = 4
)

// Put is a world as bytes.
func Put(w api.World) ([]byte, api.Errno) {
	if !Check(w) || slices.Contains(w.Dead, true) {
		return nil, api.ErrArg
	}
	b := []byte(mark)
	b = putNumber(b, len(w.L))
	for _, t := range w.L {
		b = putThing(b, t)
	}
	b = putRegs(b, w.R)
	b = putNumber(b, w.Last)
	if len(b) > api.MaxFile {
		return nil, api.ErrBig
	}
	return b, api.OK
}

// putNumber adds four bytes, the highest first.
func putNumber(b []byte, n int) []byte {
	return append(b, byte(n>>24), byte(n>>16), byte(n>>8), byte(n))
}

func putThing(b []byte, t api.Thing) []byte {
	format := t.Fmt
	if t.Final {
		format += final
	}
	b = putNumber(b, t.Class)
	b = putNumber(b, format)
	b = putNumber(b, t.Hash)
	if t.Fmt == api.Bytes {
		b = putNumber(b, len(t.B))
		return append(b, t.B...)
	}
	b = putNumber(b, len(t.F))
	for _, v := range t.F {
		b = putNumber(b, int(wordOf(v)))
	}
	return b
}

// wordOf is a field as 32 bits.
func wordOf(v api.Val) uint32 {
	if v.Obj {
		return word.Ref(v.N)
	}
	return word.Int(v.N)
}

func putRegs(b []byte, r api.Regs) []byte {
	b = putNumber(b, r.Proc)
	b = putNumber(b, r.Frame)
	b = putPlaces(b, r.Ready)
	b = putNumber(b, len(r.Wait))
	for _, x := range r.Wait {
		b = putNumber(b, x.Sema)
		b = putNumber(b, x.Proc)
	}
	return putPlaces(b, r.Due)
}

func putPlaces(b []byte, l []int) []byte {
	b = putNumber(b, len(l))
	for _, at := range l {
		b = putNumber(b, at)
	}
	return b
}
