package code

import "scanfail/api"

// maker lays instructions, one behind the other.
type maker struct {
	program []api.Statement
	labels  map[string]int // at which statement a label stands
	out     []api.Instr
	starts  []int
}

func newMaker(l []api.Statement) *maker {
	m := &maker{program: l, labels: map[string]int{}}
	for at, s := range l {
		if s.Label != "" {
			m.labels[s.Label] = at
		}
	}
	return m
}

func (m *maker) add(i api.Instr) { m.out = append(m.out, i) }

// statement lays all of a statement. Where it goes on when it fails is known once its ways on lie there.
func (m *maker) statement(at int) {
	start := len(m.out)
	m.starts = append(m.starts, start)
	m.add(api.Instr{Op: api.OpStep, N: at})
	m.body(at)
	m.ways(at)
	m.out[start].To = len(m.out) - 1
}

// body lays what a statement does.
func (m *maker) body(at int) {
	s := &m.program[at]
	switch s.Kind {
	case api.StEval:
		m.value(&s.Value)
		m.add(api.Instr{Op: api.OpDrop})
	case api.StMatch:
		m.value(&s.Value)
		m.add(api.Instr{Op: api.OpMatch, N: at})
	case api.StAssign:
		m.place(&s.Target)
		m.value(&s.Value)
		m.add(api.Instr{Op: api.OpWrite})
	case api.StReplace:
		m.place(&s.Target)
		m.add(api.Instr{Op: api.OpLook})
		m.add(api.Instr{Op: api.OpFind, N: at})
		m.value(&s.Value)
		m.add(api.Instr{Op: api.OpMend})
		m.add(api.Instr{Op: api.OpWrite})
	case api.StRule:
		m.add(api.Instr{Op: api.OpRule, N: at})
	}
}

// ways lays where a statement goes on: the last way is the one that it goes when it fails.
func (m *maker) ways(at int) {
	s := &m.program[at]
	if s.Always != "" {
		m.way(at, s.Always)
		return
	}
	m.way(at, s.Yes)
	if s.Noes != s.Yes {
		m.way(at, s.Noes)
	}
}

// way lays how it goes on at a label. A jump leads to a statement's number, until aim turns that into an instruction's: where those ahead begin is not known yet.
func (m *maker) way(at int, label string) {
	switch label {
	case "END":
		m.add(api.Instr{Op: api.OpEnd})
	case "RETURN":
		m.add(api.Instr{Op: api.OpReturn})
	case "FRETURN":
		m.add(api.Instr{Op: api.OpFail})
	case "":
		m.add(api.Instr{Op: api.OpJump, To: at + 1})
	default:
		m.add(api.Instr{Op: api.OpJump, To: m.labels[label]})
	}
}

// aim makes jumps lead to where statements begin; behind the last statement is the last instruction.
func (m *maker) aim() {
	for i := range m.out {
		jump := &m.out[i]
		if jump.Op != api.OpJump {
			continue
		}
		if jump.To < len(m.starts) {
			jump.To = m.starts[jump.To]
		} else {
			jump.To = len(m.out) - 1
		}
	}
}
