package ideal

import (
	"colloquy/api"
	"colloquy/frame"
	"colloquy/klass"
	"colloquy/number"
	"colloquy/process"
	"colloquy/send"
	things "colloquy/thing"
)

// The primitives that are not number's or thing's, by number.
const (
	callBlock = 50 + iota
	perform
	fork
	yield
	signal
	await
	write
	read
	end
	snapshot
	nextDue
)

// Limits of what primitives take.
const (
	mostArgs  = 8 // of perform
	mostLevel = 9 // of fork
	mostByte  = 0xff
)

// message is what a primitive is done with: a frame, and the values on its stack.
type message struct {
	id   int
	self api.Val
	args []api.Val
}

// primitive does one, with so many arguments on a frame's stack: the frame that goes on, and how.
func (m *Machine) primitive(id, n, count int) (int, int) {
	x := message{id: id}
	x.self, _ = frame.Top(m.mem, id, count)
	for down := count - 1; down >= 0; down-- {
		v, _ := frame.Top(m.mem, id, down)
		x.args = append(x.args, v)
	}
	v, ok := api.Val{}, false
	switch {
	case things.Args(n) >= 0:
		v, ok = things.Op(m.mem, n, x.self, x.args)
		goto reckoned
	case n < callBlock:
		if count == 1 && !x.self.Obj && !x.args[0].Obj {
			v, ok = number.Op(n, x.self.N, x.args[0].N)
		}
		goto reckoned
	case count == 0:
		return m.alone(n, x)
	}
	switch n {
	case callBlock:
		return m.call(x)
	case perform:
		return m.perform(x)
	}
	if count == 1 && !x.args[0].Obj {
		return m.withNumber(n, x)
	}
reckoned:
	if !ok {
		return 0, fails
	}
	return m.answer(x, v)
}

// answer puts a value in place of receiver and arguments.
func (m *Machine) answer(x message, v api.Val) (int, int) {
	for range len(x.args) + 1 {
		frame.Pop(m.mem, x.id)
	}
	if !frame.Push(m.mem, x.id, v) {
		return 0, send.Broken
	}
	return x.id, send.Goes
}

// answerThen is an answer, behind which something is done that leaves the registers as they must be.
func (m *Machine) answerThen(x message, v api.Val, then func()) (int, int) {
	to, how := m.answer(x, v)
	if how != send.Goes {
		return to, how
	}
	then()
	return 0, kept
}

// call is a block's call; a block may have no arguments, too.
func (m *Machine) call(x message) (int, int) {
	to, how := send.Call(m.mem, x.id, len(x.args))
	if how == send.Broken {
		return 0, fails
	}
	return to, how
}

// perform sends the name that is the first argument.
func (m *Machine) perform(x message) (int, int) {
	if len(x.args) > mostArgs || !x.args[0].Obj {
		return 0, fails
	}
	for range x.args {
		frame.Pop(m.mem, x.id)
	}
	for _, v := range x.args[1:] {
		frame.Push(m.mem, x.id, v)
	}
	return send.Send(m.mem, x.id, x.args[0].N, len(x.args)-1, klass.ClassOf(m.mem, x.self))
}

// active tells whether the active process is one.
func (m *Machine) active() bool {
	id := m.mem.Regs().Proc
	return id != 0 && process.Is(m.mem, id)
}

// alone is a primitive without arguments.
func (m *Machine) alone(n int, x message) (int, int) {
	r := m.mem.Regs()
	switch n {
	case callBlock:
		return m.call(x)
	case yield:
		if !m.active() {
			goto failed
		}
		return m.answerThen(x, x.self, func() { process.Yield(m.mem) })
	case signal:
		if !x.self.Obj || !process.Signal(m.mem, x.self.N) {
			goto failed
		}
		return m.answer(x, x.self)
	case await:
		if !x.self.Obj || !process.IsSema(m.mem, x.self.N) || !m.active() {
			goto failed
		}
		return m.answerThen(x, x.self, func() { process.Await(m.mem, x.self.N) })
	case read:
		if r.In == "" {
			goto nothing
		}
		return m.answerThen(x, api.Val{N: int(r.In[0])}, func() { r.In = r.In[1:]; m.mem.SetRegs(r) })
	case nextDue:
		if len(r.Due) == 0 {
			goto nothing
		}
		return m.answerThen(x, thing(r.Due[0]), func() { r.Due = r.Due[1:]; m.mem.SetRegs(r) })
	case snapshot:
		if len(r.Snaps) >= api.MaxQueue {
			goto failed
		}
		return m.answerThen(x, thing(api.True), m.snapshot)
	}
failed:
	return 0, fails
nothing:
	return m.answer(x, thing(api.Nil))
}

// snapshot writes the world down, if it can be.
func (m *Machine) snapshot() {
	b, err := m.record()
	if err != api.OK {
		return
	}
	r := m.mem.Regs()
	r.Snaps = append(r.Snaps, string(b))
	m.mem.SetRegs(r)
}

// withNumber is a primitive whose one argument is a number.
func (m *Machine) withNumber(n int, x message) (int, int) {
	v := x.args[0].N
	r := m.mem.Regs()
	switch n {
	case fork:
		return m.fork(x, v)
	case write:
		if v < 0 || v > mostByte || len(r.Out) >= api.MaxText {
			goto failed
		}
		return m.answerThen(x, x.self, func() { r.Out += string([]byte{byte(v)}); m.mem.SetRegs(r) })
	case end:
		if v < 0 || v > mostByte {
			goto failed
		}
		r.Exit, r.How = v, api.Ended
		m.mem.SetRegs(r)
		return 0, kept
	}
failed:
	return 0, fails
}

// fork makes a process of a block without arguments.
func (m *Machine) fork(x message, level int) (int, int) {
	block, home, at := x.self.N, 0, 0
	ok := x.self.Obj && level >= 1 && level <= mostLevel && frame.IsBlock(m.mem, block) && m.mem.Get(block, frame.BlockArgs).N == 0
	if !ok {
		goto failed
	}
	home = m.mem.Get(block, frame.BlockHome).N
	if !frame.Is(m.mem, home) {
		goto failed
	}
	at, ok = frame.New(m.mem, 0, m.mem.Get(home, frame.Method).N, m.mem.Get(home, frame.Self), block, m.mem.Get(block, frame.BlockPC).N, m.mem.Get(block, frame.BlockTemps).N, nil)
	if !ok {
		goto failed
	}
	if at, ok = process.Fork(m.mem, at, level); !ok {
		goto failed
	}
	return m.answer(x, thing(at))
failed:
	return 0, fails
}
