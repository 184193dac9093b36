package machine

import (
	"scanfail/api"
	"scanfail/world"
)

// value does an instruction that makes a text of texts.
func (m *machine) value(i *api.Instr) bool {
	switch i.Op {
	case api.OpText:
		return m.push(i.Text)
	case api.OpRead:
		return m.look(world.Variable(i.Text), true)
	case api.OpItem:
		return m.look(world.ItemOf(i.Text, m.pop()), true)
	case api.OpName:
		return m.look(world.Named(m.pop()))
	case api.OpTwo:
		l := m.take(2)
		return m.pushIf(world.Two(i.N, l[0], l[1]))
	case api.OpMake:
		return m.pushIf(world.Makes(i.Text, m.take(i.N)))
	case api.OpMend:
		l := m.take(3)
		return m.push(l[0] + l[2] + l[1])
	}
	m.pop() // OpDrop
	return true
}

// look puts what comes of reading a place on top, if there is one.
func (m *machine) look(p world.Place, ok bool) bool {
	return ok && m.pushIf(m.Read(p))
}

// place does an instruction that puts a place on top.
func (m *machine) place(i *api.Instr) bool {
	switch i.Op {
	case api.OpEntry:
		return m.pushPlace(world.ItemOf(i.Text, m.pop()), true)
	case api.OpWhere:
		return m.pushPlace(world.Named(m.pop()))
	}
	return m.pushPlace(world.Variable(i.Text), true)
}

// act does an instruction that is a part of its statement, and of no expression.
func (m *machine) act(i *api.Instr) bool {
	switch i.Op {
	case api.OpRule:
		m.Rule(i.N)
		return true
	case api.OpLook:
		return m.look(m.topPlace(), true)
	case api.OpWrite:
		return m.Give(m.popPlace(), m.pop())
	case api.OpFind:
		return m.find(i.N)
	}
	_, found := m.Match(i.N, m.pop())
	return found
}

// find looks for a statement's pattern, and puts what stands ahead of what is found, and behind it, on top.
func (m *machine) find(statement int) bool {
	subject := m.pop()
	got, found := m.Match(statement, subject)
	return found && m.push(subject[:got.From]) && m.push(subject[got.To:])
}
