// Package regs: the registers of a world, as several layers need them.
package regs

import (
	"slices"

	"colloquy/api"
)

// Copy is registers in new memory.
func Copy(r api.Regs) api.Regs {
	r.Ready = slices.Clone(r.Ready)
	r.Wait = slices.Clone(r.Wait)
	r.Due = slices.Clone(r.Due)
	r.Snaps = slices.Clone(r.Snaps)
	return r
}

// Roots are the places that all begins at: the first things, then what the registers have, each once, in this order.
func Roots(r api.Regs) []int {
	var l []int
	seen := map[int]int{}
	add := func(at int) {
		if seen[at] == 0 {
			seen[at] = 1
			l = append(l, at)
		}
	}
	for at := range api.Specials {
		add(at)
	}
	add(r.Proc) // 0 is there already
	add(r.Frame)
	for _, at := range r.Ready {
		add(at)
	}
	for _, x := range r.Wait {
		add(x.Sema)
		add(x.Proc)
	}
	for _, at := range r.Due {
		add(at)
	}
	return l
}
