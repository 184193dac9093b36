package world

import (
	"slices"

	"scanfail/api"
)

// calls are those that are open, the last one the innermost, and what is known of a program's names.
type calls struct {
	open              []call
	labels, functions map[string]int // at which statement a label stands, and which one defines a function
}

// call of a function of the program: the function's own variables, Params, Locals and Name, and what each had ahead of the call.
type call struct{ own, aside []string }

func newCalls(l []api.Statement) calls {
	c := calls{labels: map[string]int{}, functions: map[string]int{}}
	for at, s := range l {
		if s.Label != "" {
			c.labels[s.Label] = at
		}
		if s.Kind == api.StDefine {
			c.functions[s.Name] = at
		}
	}
	return c
}

// Labelled is the statement that has a label.
func (c *calls) Labelled(label string) int { return c.labels[label] }

// Within is how many calls are open.
func (c *calls) Within() int { return len(c.open) }

// Enter opens a call of a function of the program, and tells at which statement that begins. It fails if too many are open, and also if it ends the run.
func (w *World) Enter(name string, args []string) (int, bool) {
	if w.Within() == api.MaxCalls {
		return 0, false
	}
	define := &w.program[w.functions[name]]
	own := slices.Concat(define.Params, define.Locals, []string{define.Name})
	aside := make([]string, len(own))
	given := make([]string, len(own)) // Params are the first ones: arguments stand at the same places
	copy(given, args)
	for i, name := range own {
		aside[i] = w.has(Variable(name))
	}
	if !w.giveAll(own, given) {
		return 0, false
	}
	w.open = append(w.open, call{own: own, aside: aside})
	return w.Labelled(define.Entry), true
}

// Leave closes the innermost call, and tells its result. It fails if that ends the run.
func (w *World) Leave() (string, bool) {
	last := len(w.open) - 1
	c := w.open[last]
	w.open = w.open[:last]
	result := w.has(Variable(c.own[len(c.own)-1]))
	if !w.giveAll(c.own, c.aside) {
		return "", false
	}
	return result, true
}

// giveAll gives each variable the text at its place. It fails if that ends the run.
func (w *World) giveAll(names, texts []string) bool {
	for i, name := range names {
		if !w.Give(Variable(name), texts[i]) {
			return false
		}
	}
	return true
}
