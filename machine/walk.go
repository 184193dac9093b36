package machine

import (
	"scanfail/api"
	"scanfail/world"
)

// machine runs instructions, with a stack of texts and one of places. Calls do not nest in it: each has a frame.
type machine struct {
	world.World
	trace
	stacks
	instrs []api.Instr
	starts []int // where each statement's instructions begin
	at     int   // the instruction that comes next
	frames []frame
}

// frame is where a call, or what is outside of all calls, stands.
type frame struct {
	back          int  // where the caller goes on
	fails         int  // where the statement at work goes on when it fails
	number        int  // that statement's in the trace
	failed        bool // whether it has
	texts, places int  // how high the stacks are at the beginning of each of its statements
}

func (m *machine) frame() *frame { return &m.frames[len(m.frames)-1] }

// run runs from the instruction at which it stands until the run ends.
func (m *machine) run() {
	for !m.Over() {
		i := &m.instrs[m.at]
		m.at++
		if !m.do(i) {
			m.fail()
		}
	}
}

// do does what an instruction says, and tells whether it did not fail; what ends the run may be told as either.
func (m *machine) do(i *api.Instr) bool {
	switch i.Op {
	case api.OpStep:
		return m.step(i)
	case api.OpCall:
		return m.call(i)
	case api.OpJump, api.OpReturn, api.OpFail, api.OpEnd:
		m.succeed()
		return m.goOn(i)
	case api.OpVar, api.OpEntry, api.OpWhere:
		return m.place(i)
	case api.OpMatch, api.OpFind, api.OpRule, api.OpLook, api.OpWrite:
		return m.act(i)
	}
	return m.value(i)
}

// step comes to a statement, if the run does not end ahead of it.
func (m *machine) step(i *api.Instr) bool {
	if !m.Come(i.N) {
		return false
	}
	f := m.frame()
	f.fails, f.failed = i.To, false
	f.number = m.note(i.N, m.Within())
	return true
}

// fail lets the statement at work fail: what it has put on the stacks is gone.
func (m *machine) fail() {
	f := m.frame()
	f.failed = true
	m.cut(f.texts, f.places)
	m.at = f.fails
}

// succeed notes that the statement at work has come to its ways on, unless it failed.
func (m *machine) succeed() {
	if f := m.frame(); !f.failed {
		m.trace.succeed(f.number)
	}
}

// goOn goes a way on behind a statement.
func (m *machine) goOn(i *api.Instr) bool {
	switch i.Op {
	case api.OpJump:
		m.at = i.To
		return true
	case api.OpEnd:
		m.End(api.RanEnd)
		return true
	}
	if m.Within() == 0 {
		m.End(api.RanEnd)
		return true
	}
	return m.leave(i.Op == api.OpReturn)
}

// call goes to where a function of the program begins; its statements stand in a frame of their own.
func (m *machine) call(i *api.Instr) bool {
	entry, ok := m.Enter(i.Text, m.take(i.N))
	if !ok {
		return false
	}
	m.frames = append(m.frames, frame{back: m.at, texts: len(m.texts), places: len(m.places)})
	m.at = m.starts[entry]
	return true
}

// leave goes back to the caller, who has the result, or fails.
func (m *machine) leave(succeeded bool) bool {
	m.at = m.frame().back
	m.frames = m.frames[:len(m.frames)-1]
	result, ok := m.Leave()
	return ok && succeeded && m.push(result)
}
