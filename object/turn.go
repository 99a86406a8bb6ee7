package object

import (
	"slices"

	"colloquy/api"
	"colloquy/header"
	"colloquy/image"
)

// Set sets a field.
func (m *Mem) Set(id, i int, v api.Val) bool {
	if !m.Has(id) || !m.May(v) || m.unmakes(id, i, v) || !m.space.SetField(id, i, v) {
		return false
	}
	if v.Obj {
		m.meet(v.N)
	}
	return true
}

// unmakes tells whether a class would be none any more, were a field of it v.
func (m *Mem) unmakes(id, i int, v api.Val) bool {
	if i != image.SizeField && i != image.FmtField || !m.IsClass(id) {
		return false
	}
	size, format := m.Get(id, image.SizeField), m.Get(id, image.FmtField)
	switch i {
	case image.SizeField:
		size = v
	case image.FmtField:
		format = v
	}
	return !image.Shapes(size, format)
}

// meet is where all goes by that a thing is stored into, or told of: while a collection marks, it may not be missed.
func (m *Mem) meet(id int) {
	switch m.phase {
	case api.Marks:
		m.Shade(id)
	case api.Idle, api.Sweep:
	}
}

// SetByte sets a byte.
func (m *Mem) SetByte(id, i, v int) bool {
	return m.Has(id) && m.space.SetByte(id, i, v&0xff)
}

// Make makes an instance of a class.
func (m *Mem) Make(class, n int) (int, bool) {
	if !m.IsClass(class) || n < 0 || m.last >= api.MaxObjects {
		return 0, false
	}
	most := api.MaxFields
	own, format := m.Shape(class)
	if format == api.Bytes {
		own, most = 0, api.MaxBytes
	}
	if n > most-own {
		return 0, false
	}
	if !m.space.Make(class, format, own+n, m.last+1) {
		m.short = true
		return 0, false
	}
	id := len(m.dead)
	m.dead = append(m.dead, false)
	m.last++
	switch m.phase {
	case api.Marks:
		m.space.SetMark(id, header.Black, false)
	case api.Idle, api.Sweep:
	}
	m.meet(class)
	return id, true
}

// Become lets two things change what they are.
func (m *Mem) Become(a, b int) bool {
	if a == b || !m.loose(a) || !m.loose(b) {
		return false
	}
	m.space.Become(a, b)
	switch m.phase {
	case api.Marks:
		m.again(a)
		m.again(b)
	case api.Idle, api.Sweep:
	}
	return true
}

// loose tells whether a thing may become another one.
func (m *Mem) loose(id int) bool {
	if !m.Has(id) || id < api.Specials || m.IsClass(id) {
		return false
	}
	r := m.regs
	if id == r.Proc || id == r.Frame || slices.Contains(r.Ready, id) || slices.Contains(r.Due, id) {
		return false
	}
	return !slices.ContainsFunc(r.Wait, func(x api.Wait) bool { return x.Sema == id || x.Proc == id })
}

// again makes a thing Grey, Black ones, too: what it has is another's now.
func (m *Mem) again(id int) {
	if m.Colour(id) != header.Grey {
		m.Paint(id, header.Grey)
		m.stack.Push(id)
	}
}

// Of are all of a class.
func (m *Mem) Of(class int) []int {
	if !m.Has(class) {
		return nil
	}
	return m.tell(func(id int) bool { return m.space.Class(id) == class })
}

// Owners are all that have a thing.
func (m *Mem) Owners(id int) []int {
	if !m.Has(id) {
		return nil
	}
	return m.tell(func(owner int) bool { return m.owns(owner, id) })
}

// owns tells whether a thing has a field that is another one.
func (m *Mem) owns(owner, id int) bool {
	for i := 0; ; i++ {
		v, ok := m.space.Field(owner, i)
		if !ok || v == (api.Val{Obj: true, N: id}) {
			return ok
		}
	}
}

// tell is all that is not dead of which a function says yes, from the lowest place on.
func (m *Mem) tell(is func(id int) bool) []int {
	var l []int
	for id := range m.dead {
		if m.Has(id) && is(id) {
			l = append(l, id)
			m.meet(id)
		}
	}
	return l
}

// Watch lets a thing be told of when it goes.
func (m *Mem) Watch(id int) bool {
	if !m.Has(id) || id < api.Specials {
		return false
	}
	m.space.SetMark(id, m.Colour(id), true)
	return true
}
