// Package event: what happens to a machine of any kind.
package event

import "colloquy/api"

// most is how many events are looked at.
const most = 1000

// Machine is a machine to which events may happen.
type Machine interface {
	Step() int
	Work(budget int) int
	Tick()
	Input(s string) bool
	How() int
}

// Count is how many of some events are looked at: the first ones.
func Count(l []api.Event) int { return min(len(l), most) }

// Do lets an event happen: how many steps were done, and how many units.
func Do(m Machine, e api.Event) (int, int) {
	switch e.Kind {
	case api.EvSteps:
		return steps(m, Times(e)), 0
	case api.EvWork:
		return 0, m.Work(Times(e))
	case api.EvTick:
		m.Tick()
	case api.EvInput:
		m.Input(e.S)
	}
	return 0, 0
}

// steps does so many, as long as it goes.
func steps(m Machine, n int) int {
	done := 0
	for how := m.How(); how == api.Runs && done < n; done++ {
		how = m.Step()
	}
	return done
}

// Times is of how many pieces an event is.
func Times(e api.Event) int {
	switch e.Kind {
	case api.EvSteps, api.EvWork:
		return max(0, min(e.N, api.MaxSteps))
	}
	return 1
}

// Piece is one of them.
func Piece(e api.Event) api.Event { return api.Event{Kind: e.Kind, N: 1, S: e.S} }
