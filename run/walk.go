package run

import (
	"slices"

	"scanfail/api"
)

// runner goes through a program; a call within an expression is a walk within the walk.
type runner struct {
	world
	patterns
	program           []api.Statement
	labels, functions map[string]int // at which statement a label stands, and which one defines a function
	open              int            // calls
}

func newRunner(l []api.Statement, input []string, limit int) *runner {
	r := &runner{world: newWorld(len(l), input, limit), patterns: newPatterns(l), program: l, labels: map[string]int{}, functions: map[string]int{}}
	for at, s := range l {
		if s.Label != "" {
			r.labels[s.Label] = at
		}
		if s.Kind == api.StDefine {
			r.functions[s.Name] = at
		}
	}
	return r
}

// begin runs the program. Where it comes back it went to RETURN or FRETURN outside of all calls.
func (r *runner) begin() {
	r.walk(0)
	if !r.over() {
		r.end(api.RanEnd)
	}
}

// walk runs from a statement on, until it goes to RETURN or FRETURN, or the run ends; it tells whether it went to RETURN.
func (r *runner) walk(at int) bool {
	for at < len(r.program) {
		if !r.come(at) {
			return false
		}
		succeeded := r.do(at)
		if r.over() {
			return false
		}
		switch label := leads(&r.program[at], succeeded); label {
		case "":
			at++
		case "RETURN":
			return true
		case "FRETURN":
			return false
		case "END":
			at = len(r.program)
		default:
			at = r.labels[label]
		}
	}
	r.end(api.RanEnd)
	return false
}

// leads is the label at which it goes on behind a statement; empty: at the next one.
func leads(s *api.Statement, succeeded bool) string {
	switch {
	case s.Always != "":
		return s.Always
	case succeeded:
		return s.Yes
	}
	return s.Noes
}

// do does what a statement says, and tells whether it succeeded.
func (r *runner) do(at int) bool {
	s := &r.program[at]
	switch s.Kind {
	case api.StEval:
		_, ok := r.value(&s.Value)
		return ok
	case api.StRule:
		r.named[s.Name] = at
	case api.StAssign:
		return r.assign(s)
	case api.StMatch:
		subject, ok := r.value(&s.Value)
		if ok {
			_, ok = r.match(at, subject)
		}
		return ok
	case api.StReplace:
		return r.replace(at)
	}
	return true
}

func (r *runner) assign(s *api.Statement) bool {
	p, ok := r.place(&s.Target)
	if !ok {
		return false
	}
	text, ok := r.value(&s.Value)
	return ok && r.give(p, text)
}

func (r *runner) replace(at int) bool {
	s := &r.program[at]
	p, ok := r.place(&s.Target)
	if !ok {
		return false
	}
	subject, ok := r.read(p)
	if !ok {
		return false
	}
	m, ok := r.match(at, subject)
	if !ok {
		return false
	}
	text, ok := r.value(&s.Value)
	return ok && r.give(p, subject[:m.From]+text+subject[m.To:])
}

// call is the result of a function that the program defines.
func (r *runner) call(define *api.Statement, args []string) (string, bool) {
	if r.open == api.MaxCalls {
		return "", false
	}
	own := slices.Concat(define.Params, define.Locals, []string{define.Name})
	aside := make([]string, len(own))
	given := make([]string, len(own)) // Params are the first ones: arguments stand at the same places
	copy(given, args)
	for i, name := range own {
		aside[i] = r.has(variable(name))
	}
	if !r.giveAll(own, given) {
		return "", false
	}
	r.open++
	succeeded := r.walk(r.labels[define.Entry])
	r.open--
	if r.over() {
		return "", false
	}
	result := r.has(variable(define.Name))
	if !r.giveAll(own, aside) || !succeeded {
		return "", false
	}
	return result, true
}

// giveAll gives each variable the text at its place. It fails if that ends the run.
func (r *runner) giveAll(names, texts []string) bool {
	for i, name := range names {
		if !r.give(variable(name), texts[i]) {
			return false
		}
	}
	return true
}
