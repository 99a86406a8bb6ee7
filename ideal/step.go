package ideal

import (
	"colloquy/api"
	"colloquy/code"
	"colloquy/frame"
	"colloquy/klass"
	"colloquy/process"
	"colloquy/send"
	"colloquy/simple"
)

// How an instruction may go beside send's ways: a primitive that fails; registers that are as they must be already.
const (
	fails = -1
	kept  = -2
)

// thing is a thing as a value.
func thing(id int) api.Val { return api.Val{Obj: true, N: id} }

// Step is one instruction.
func (m *Machine) Step() int {
	if how := m.How(); how != api.Runs {
		return how
	}
	to, how := m.turn(m.mem.Regs().Frame)
	if m.mem.Short() {
		how = send.Full
	}
	switch how {
	case send.Goes:
		m.setFrame(to)
	case send.Done:
		process.Take(m.mem)
	case send.Broken:
		m.setHow(api.Broken)
	case send.Full:
		m.setHow(api.Full)
	}
	return m.How()
}

func (m *Machine) setFrame(id int) {
	r := m.mem.Regs()
	if r.Frame != id {
		r.Frame = id
		m.mem.SetRegs(r)
	}
}

func (m *Machine) setHow(how int) {
	r := m.mem.Regs()
	r.How = how
	m.mem.SetRegs(r)
}

// turn does the next instruction of a frame: the frame that goes on, and how.
func (m *Machine) turn(id int) (int, int) {
	var i code.Ins
	var v api.Val
	ok := frame.Is(m.mem, id)
	if !ok {
		goto broken
	}
	if i, ok = frame.Next(m.mem, id); !ok {
		return send.Return(m.mem, id, m.mem.Get(id, frame.Self))
	}
	if simple.Does(i.Op) {
		goto simply
	}
	switch i.Op {
	case code.Send, code.Super:
		return m.send(id, i)
	case code.IfTrue, code.IfFalse, code.Ret, code.Up:
		if v, ok = frame.Pop(m.mem, id); !ok {
			goto broken
		}
	}
	switch i.Op {
	case code.IfTrue:
		return m.branch(id, i, v, api.True)
	case code.IfFalse:
		return m.branch(id, i, v, api.False)
	case code.Ret:
		return send.Return(m.mem, id, v)
	case code.Up:
		return send.Up(m.mem, id, v)
	}
	goto broken
simply:
	if simple.Do(m.mem, id, i) {
		return id, send.Goes
	}
	if m.mem.Last() == api.MaxObjects {
		return 0, send.Full
	}
broken:
	return 0, send.Broken
}

// branch jumps by a value that was popped, if that is the truth that is asked for.
func (m *Machine) branch(id int, i code.Ins, v api.Val, truth int) (int, int) {
	if v != thing(api.True) && v != thing(api.False) {
		goto other
	}
	if v != thing(truth) || simple.Jump(m.mem, id, i) {
		return id, send.Goes
	}
	return 0, send.Broken
other:
	frame.Push(m.mem, id, v)
	return send.Send(m.mem, id, api.NameBool, 0, klass.ClassOf(m.mem, v))
}

// send sends a message: by a primitive, where there is one that does not fail.
func (m *Machine) send(id int, i code.Ins) (int, int) {
	method := m.mem.Get(id, frame.Method).N
	name := m.mem.Get(method, frame.MethodLits+i.A)
	class, ok := m.class(id, method, i)
	found := 0
	if !ok || !name.Obj {
		return 0, send.Broken
	}
	if found, ok = klass.Find(m.mem, class, name.N); !ok || !frame.IsMethod(m.mem, found) {
		goto plain
	}
	if n := m.mem.Get(found, frame.MethodPrim).N; n != 0 {
		to, how := m.primitive(id, n, i.B)
		if how != fails {
			return to, how
		}
		if m.mem.Short() { // no more is done
			return 0, send.Full
		}
	}
plain:
	return send.Send(m.mem, id, name.N, i.B, class)
}

// class is where a message is looked for.
func (m *Machine) class(id, method int, i code.Ins) (int, bool) {
	self, ok := frame.Top(m.mem, id, i.B)
	if !ok || i.Op == code.Send {
		return klass.ClassOf(m.mem, self), ok
	}
	last := m.mem.Get(method, m.mem.Size(method)-1)
	if !last.Obj {
		return 0, false
	}
	v := m.mem.Get(last.N, 0)
	return v.N, v.Obj
}
