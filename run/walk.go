package run

import (
	"scanfail/api"
	"scanfail/world"
)

// runner goes through a program; a call within an expression is a walk within the walk.
type runner struct {
	world.World
	program []api.Statement
}

// begin runs the program. Where it comes back it went to RETURN or FRETURN outside of all calls.
func (r *runner) begin() {
	r.walk(0)
	if !r.Over() {
		r.End(api.RanEnd)
	}
}

// walk runs from a statement on, until it goes to RETURN or FRETURN, or the run ends; it tells whether it went to RETURN.
func (r *runner) walk(at int) bool {
	for at < len(r.program) {
		if !r.Come(at) {
			return false
		}
		succeeded := r.do(at)
		if r.Over() {
			return false
		}
		switch label := leads(&r.program[at], succeeded); label {
		case "":
			at++
		case "RETURN":
			return true
		case "FRETURN":
			return false
		case "END":
			at = len(r.program)
		default:
			at = r.Labelled(label)
		}
	}
	r.End(api.RanEnd)
	return false
}

// leads is the label at which it goes on behind a statement; empty: at the next one.
func leads(s *api.Statement, succeeded bool) string {
	switch {
	case s.Always != "":
		return s.Always
	case succeeded:
		return s.Yes
	}
	return s.Noes
}

// do does what a statement says, and tells whether it succeeded.
func (r *runner) do(at int) bool {
	s := &r.program[at]
	switch s.Kind {
	case api.StEval:
		_, ok := r.value(&s.Value)
		return ok
	case api.StRule:
		r.Rule(at)
	case api.StAssign:
		return r.assign(s)
	case api.StMatch:
		subject, ok := r.value(&s.Value)
		if ok {
			_, ok = r.Match(at, subject)
		}
		return ok
	case api.StReplace:
		return r.replace(at)
	}
	return true
}

func (r *runner) assign(s *api.Statement) bool {
	p, ok := r.place(&s.Target)
	if !ok {
		return false
	}
	text, ok := r.value(&s.Value)
	return ok && r.Give(p, text)
}

func (r *runner) replace(at int) bool {
	s := &r.program[at]
	p, ok := r.place(&s.Target)
	if !ok {
		return false
	}
	subject, ok := r.Read(p)
	if !ok {
		return false
	}
	m, ok := r.Match(at, subject)
	if !ok {
		return false
	}
	text, ok := r.value(&s.Value)
	return ok && r.Give(p, subject[:m.From]+text+subject[m.To:])
}

// call is the result of a function that the program defines.
func (r *runner) call(name string, args []string) (string, bool) {
	entry, ok := r.Enter(name, args)
	if !ok {
		return "", false
	}
	succeeded := r.walk(entry)
	if r.Over() {
		return "", false
	}
	result, ok := r.Leave()
	return result, ok && succeeded
}
