package sheet

import (
	"strconv"
	"strings"

	"colloquy/api"
	"colloquy/code"
	"colloquy/image"
	"colloquy/script"
	"colloquy/start"
)

// sheet is a world that lines build.
type sheet struct{ w api.World }

// do does what a line's words say: what it says then; empty: nothing.
func (s *sheet) do(l []string) string {
	if len(l) == 0 || strings.HasPrefix(l[0], "#") {
		return ""
	}
	switch l[0] {
	case "thing":
		return s.thing(l[1:])
	case "bytes":
		return s.bytes(l[1:])
	case "code":
		return s.code(l[1:])
	case "set":
		return s.set(l[1:])
	case "proc":
		return s.proc(l[1:])
	case "run":
		return s.run(l[1:])
	case "check":
		if len(l) > 1 {
			return failed(api.ErrLine)
		}
		return s.check()
	case "new":
		if len(l) > 1 {
			return failed(api.ErrLine)
		}
		s.w = start.World()
		return ""
	}
	return failed(api.ErrLine)
}

// failed tells an error.
func failed(err api.Errno) string { return "error " + strconv.Itoa(int(err)) }

// number is a word as a number of one to nine digits.
func number(word string) (int, bool) {
	if len(word) < 1 || len(word) > 9 {
		return 0, false
	}
	n := 0
	for i := range len(word) {
		if word[i] < '0' || word[i] > '9' {
			return 0, false
		}
		n = n*10 + int(word[i]-'0')
	}
	return n, true
}

// numbers are words as numbers.
func numbers(l []string) ([]int, bool) {
	var all []int
	for _, word := range l {
		n, ok := number(word)
		if !ok {
			return nil, false
		}
		all = append(all, n)
	}
	return all, true
}

// value is a word as a value.
func value(word string) (api.Val, bool) {
	rest, obj := strings.CutPrefix(word, "@")
	below := false
	if !obj {
		rest, below = strings.CutPrefix(word, "-")
	}
	n, ok := number(rest)
	if !ok {
		return api.Val{}, false
	}
	if below {
		n = -n
	}
	return api.Val{Obj: obj, N: n}, true
}

// add lays one thing more.
func (s *sheet) add(t api.Thing) string {
	if len(s.w.L) >= mostThings {
		return failed(api.ErrBig)
	}
	s.w.Last++
	t.Hash = s.w.Last
	s.w.L = append(s.w.L, t)
	return ""
}

func (s *sheet) thing(l []string) string {
	if len(l) < 2 {
		return failed(api.ErrLine)
	}
	n, ok := numbers(l[:2])
	if !ok || n[1] != api.Plain && n[1] != api.Weak {
		return failed(api.ErrLine)
	}
	t := api.Thing{Class: n[0], Fmt: n[1]}
	for _, word := range l[2:] {
		v, ok := value(word)
		if !ok {
			return failed(api.ErrLine)
		}
		t.F = append(t.F, v)
	}
	return s.add(t)
}

func (s *sheet) bytes(l []string) string {
	if len(l) != 2 {
		return failed(api.ErrLine)
	}
	class, ok := number(l[0])
	if !ok {
		return failed(api.ErrLine)
	}
	text := l[1]
	if text == "-" {
		text = ""
	}
	return s.add(api.Thing{Class: class, Fmt: api.Bytes, B: text})
}

func (s *sheet) code(l []string) string {
	if len(l) < 1 {
		return failed(api.ErrLine)
	}
	class, ok := number(l[0])
	if !ok {
		return failed(api.ErrLine)
	}
	ins, ok := instructions(l[1:])
	if !ok {
		return failed(api.ErrLine)
	}
	return s.add(api.Thing{Class: class, Fmt: api.Bytes, B: code.Put(ins)})
}

// instructions are words as such, by threes.
func instructions(l []string) ([]code.Ins, bool) {
	if len(l)%3 != 0 || len(l)/3 > api.MaxCode {
		return nil, false
	}
	var all []code.Ins
	for ; len(l) > 0; l = l[3:] {
		op := code.Op(l[0])
		n, ok := numbers(l[1:3])
		if op == 0 || !ok || n[0] > 255 || n[1] > 255 {
			return nil, false
		}
		all = append(all, code.Ins{Op: op, A: n[0], B: n[1]})
	}
	return all, true
}

func (s *sheet) set(l []string) string {
	if len(l) != 3 {
		return failed(api.ErrLine)
	}
	n, ok := numbers(l[:2])
	v, isValue := value(l[2])
	if !ok || !isValue || n[0] >= len(s.w.L) || n[1] >= len(s.w.L[n[0]].F) {
		return failed(api.ErrLine)
	}
	s.w.L[n[0]].F[n[1]] = v
	return ""
}

func (s *sheet) proc(l []string) string {
	n, ok := numbers(l)
	if !ok || len(n) != 2 {
		return failed(api.ErrLine)
	}
	s.w.R.Proc, s.w.R.Frame = n[0], n[1]
	return ""
}

func (s *sheet) check() string {
	if !image.Check(s.w) {
		return failed(api.ErrImage)
	}
	return "ok"
}

func (s *sheet) run(l []string) string {
	n, ok := numbers(l)
	if !ok || len(n) != 5 || n[4] > mostTimes {
		return failed(api.ErrLine)
	}
	if !image.Check(s.w) {
		return failed(api.ErrImage)
	}
	var events []api.Event
	for range n[4] {
		events = append(events, api.Event{Kind: api.EvSteps, N: n[2]}, api.Event{Kind: api.EvWork, N: n[3]})
	}
	t, ok := script.Real(s.w, n[0], n[1], events)
	if !ok {
		return failed(api.ErrRoom)
	}
	return strconv.Itoa(t.How) + " " + strconv.Itoa(t.Exit) + " " + strconv.Itoa(t.Steps) + " " + digits(t.Out)
}

// digits are bytes as digits of sixteen, two each.
func digits(text string) string {
	const sixteen = "0123456789abcdef"
	if text == "" {
		return "-"
	}
	var b []byte
	for i := range len(text) {
		b = append(b, sixteen[text[i]>>4], sixteen[text[i]&0xf])
	}
	return string(b)
}
