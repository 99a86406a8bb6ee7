// Package regs: the registers of a world, as several layers need them.
package regs

import (
	"slices"

	"colloquy/api"
)

// Copy is registers in new memory.
func Copy(r api.Regs) api.Regs {
	r.Ready = slices.Clone(r.Ready)
	r.Wait = slices.Clone(r.Wait)
	r.Due = slices.Clone(r.Due)
	r.Snaps = slices.Clone(r.Snaps)
	return r
}

// Places are the places that registers have; 0, that is none, is left out.
func Places(r api.Regs) []int {
	l := append([]int{r.Proc, r.Frame}, r.Ready...)
	for _, x := range r.Wait {
		l = append(l, x.Sema, x.Proc)
	}
	l = append(l, r.Due...)
	return slices.DeleteFunc(l, func(at int) bool { return at == 0 })
}

// Roots are the places that all begins at: the first things, then what the registers have, each once, in this order.
func Roots(r api.Regs) []int {
	var l []int
	seen := map[int]int{}
	add := func(at int) {
		if seen[at] == 0 {
			seen[at] = 1
			l = append(l, at)
		}
	}
	for at := range api.Specials {
		add(at)
	}
	for _, at := range Places(r) {
		add(at)
	}
	return l
}
