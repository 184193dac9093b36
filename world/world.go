// Package world is what a run of a program reads and changes, whoever goes through its statements: see doc/12-run.md. It is given programs that chapter 11 finds right.
package world

import (
	"strings"

	"scanfail/api"
	"scanfail/check"
)

// goesOn is how a run has ended that has not.
const goesOn = 0

// World of a run.
type World struct {
	store
	patterns
	calls
	program      []api.Statement
	input        []string // the lines that have not been read
	output       []string
	spoken       int // how much has been told
	limit, steps int
	how          int // how the run has ended
	comings      []int
}

// New is the world of a run that has not begun.
func New(l []api.Statement, input []string, limit int) World {
	return World{store: newStore(), patterns: newPatterns(l), calls: newCalls(l), program: l, input: input, limit: limit, comings: make([]int, len(l))}
}

// Wrong is what is wrong with what a run is given.
func Wrong(l []api.Statement, input []string, limit int) api.Fault {
	if fault := check.Check(l); fault.Err != api.OK {
		return fault
	}
	if len(input) > api.MaxInput {
		return api.Fault{Err: api.ErrMany}
	}
	for at, line := range input {
		if len(line) > api.MaxText {
			return api.Fault{Err: api.ErrMuch, At: at}
		}
	}
	if limit < 0 || limit > api.MaxSteps {
		return api.Fault{Err: api.ErrRange}
	}
	return api.Fault{}
}

// End ends the run. Whatever is at work then fails, part by part, and does nothing more.
func (w *World) End(how int) { w.how = how }

// Over tells whether the run has ended.
func (w *World) Over() bool { return w.how != goesOn }

// Come comes to a statement, if there is a step left for it.
func (w *World) Come(at int) bool {
	if w.steps == w.limit {
		w.End(api.RanLimit)
		return false
	}
	w.steps++
	w.comings[at]++
	return true
}

// Read is what comes of reading a place; it fails if that is INPUT, and no line is left.
func (w *World) Read(p Place) (string, bool) {
	if p != Variable("INPUT") {
		return w.has(p), true
	}
	if len(w.input) == 0 {
		return "", false
	}
	line := w.input[0]
	w.input = w.input[1:]
	return line, true
}

// Give gives a place a text. It fails if that can't be had there, and also if it ends the run.
func (w *World) Give(p Place, text string) bool {
	if p == Variable("INPUT") || len(text) > api.MaxText {
		return false
	}
	if p == Variable("OUTPUT") {
		return w.room(w.tell(text))
	}
	return w.room(w.put(p, text))
}

// room ends the run, if there was none for what was to be given.
func (w *World) room(some bool) bool {
	if !some {
		w.End(api.RanMuch)
	}
	return some
}

// tell tells a line, unless more would have been told then than may be. It is cloned for the reason for which put clones.
func (w *World) tell(line string) bool {
	if w.spoken+len(line)+1 > api.MaxStore {
		return false
	}
	w.spoken += len(line) + 1
	w.output = append(w.output, strings.Clone(line))
	return true
}

// Ran is what came of the run, and how often it came to each statement.
func (w *World) Ran() (api.Ran, []int) {
	vars, items := w.list()
	return api.Ran{Output: w.output, How: w.how, Steps: w.steps, Vars: vars, Items: items}, w.comings
}
