package object

import (
	"slices"

	"colloquy/api"
)

// Space is where things are: in a list, or in a heap. Things are told by their places in the list of all that were ever made. Mem asks it of things that are there alone, and of values that may be.
type Space interface {
	Len() int // the dead ones, too
	Class(id int) int
	Fmt(id int) int
	Hash(id int) int
	Size(id int) int
	Field(id, i int) (api.Val, bool) // false: it has no such field
	SetField(id, i int, v api.Val) bool
	Byte(id, i int) int // -1: it has no such byte
	SetByte(id, i, v int) bool
	Mark(id int) (colour int, final bool)
	SetMark(id, colour int, final bool)
	Make(class, format, size, hash int) bool // White, all Nil, or bytes 0; false: there is no room
	Become(a, b int)                         // they change all but their hash and their colour
	Drop(id int)                             // a dead thing's turn to go
}

// body is a thing in a list.
type body struct {
	class, format, hash, colour int
	final                       bool
	fields                      []api.Val
	bytes                       []byte
}

// list is a space that has room for all, and keeps what is dead.
type list struct{ all []body }

// newList is a world's things.
func newList(w api.World) *list {
	s := &list{}
	for _, t := range w.L {
		s.all = append(s.all, body{class: t.Class, format: t.Fmt, hash: t.Hash, final: t.Final, fields: slices.Clone(t.F), bytes: []byte(t.B)})
	}
	return s
}

func (s *list) Len() int         { return len(s.all) }
func (s *list) Class(id int) int { return s.all[id].class }
func (s *list) Fmt(id int) int   { return s.all[id].format }
func (s *list) Hash(id int) int  { return s.all[id].hash }
func (s *list) Size(id int) int  { return len(s.all[id].fields) + len(s.all[id].bytes) }

func (s *list) Field(id, i int) (api.Val, bool) {
	x := &s.all[id]
	if i < 0 || i >= len(x.fields) {
		return api.Val{}, false
	}
	return x.fields[i], true
}

func (s *list) SetField(id, i int, v api.Val) bool {
	x := &s.all[id]
	if i < 0 || i >= len(x.fields) {
		return false
	}
	x.fields[i] = v
	return true
}

func (s *list) Byte(id, i int) int {
	x := &s.all[id]
	if i < 0 || i >= len(x.bytes) {
		return -1
	}
	return int(x.bytes[i])
}

func (s *list) SetByte(id, i, v int) bool {
	x := &s.all[id]
	if i < 0 || i >= len(x.bytes) {
		return false
	}
	x.bytes[i] = byte(v)
	return true
}

func (s *list) Mark(id int) (int, bool) { return s.all[id].colour, s.all[id].final }

func (s *list) SetMark(id, colour int, final bool) {
	s.all[id].colour, s.all[id].final = colour, final
}

func (s *list) Make(class, format, size, hash int) bool {
	x := body{class: class, format: format, hash: hash}
	if format == api.Bytes {
		x.bytes = make([]byte, size)
	} else {
		x.fields = slices.Repeat([]api.Val{{Obj: true, N: api.Nil}}, size)
	}
	s.all = append(s.all, x)
	return true
}

func (s *list) Become(a, b int) {
	x, y := &s.all[a], &s.all[b]
	*x, *y = *y, *x
	x.hash, y.hash = y.hash, x.hash
	x.colour, y.colour = y.colour, x.colour
}

// Drop leaves the thing in the list: of what is dead nothing is turned.
func (s *list) Drop(id int) {}
