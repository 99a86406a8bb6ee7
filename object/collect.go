package object

import (
	"colloquy/api"
	"colloquy/grey"
	"colloquy/header"
)

// Phase is how far a collection is.
func (m *Mem) Phase() int { return m.phase }

// Colour is how a collection sees a thing.
func (m *Mem) Colour(id int) int {
	if !m.Has(id) {
		return header.White
	}
	colour, _ := m.space.Mark(id)
	return colour
}

// Shade makes a White thing Grey.
func (m *Mem) Shade(id int) {
	if m.Has(id) && m.Colour(id) == header.White {
		m.Paint(id, header.Grey)
		m.stack.Push(id)
	}
}

// Paint turns a thing's colour, and nothing else.
func (m *Mem) Paint(id, colour int) {
	if !m.Has(id) || colour < header.White || colour > header.Black {
		return
	}
	_, final := m.space.Mark(id)
	m.space.SetMark(id, colour, final)
}

// Unwatch lets a thing go untold.
func (m *Mem) Unwatch(id int) {
	if m.Has(id) {
		m.space.SetMark(id, m.Colour(id), false)
	}
}

// Stack is what is Grey, as far as there is room.
func (m *Mem) Stack() *grey.Stack { return m.stack }

// Mark begins the phase Marks.
func (m *Mem) Mark() {
	m.phase = api.Marks
	m.laid = true
}

// Bury makes dead what is White, and begins the phase Sweep.
func (m *Mem) Bury() {
	m.sweep = nil
	for id := range m.dead {
		if m.Has(id) {
			m.sweep = append(m.sweep, id)
		}
	}
	for _, id := range m.sweep {
		m.dead[id] = m.Colour(id) == header.White
	}
	m.phase = api.Sweep
}

// Sweep lets the next thing be White, or go; behind the last one Phase is Idle.
func (m *Mem) Sweep() {
	if len(m.sweep) == 0 {
		return
	}
	id := m.sweep[0]
	m.sweep = m.sweep[1:]
	if m.Has(id) {
		m.Paint(id, header.White)
	} else {
		m.space.Drop(id)
	}
	if len(m.sweep) == 0 {
		m.phase = api.Idle
	}
}
