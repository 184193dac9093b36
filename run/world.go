package run

import (
	"strings"

	"scanfail/api"
)

// goesOn is how a run has ended that has not.
const goesOn = 0

// world is what a run reads and changes, whoever goes through its statements.
type world struct {
	store
	input        []string // the lines that have not been read
	output       []string
	spoken       int // how much has been told
	limit, steps int
	how          int // how the run has ended
	comings      []int
}

func newWorld(statements int, input []string, limit int) world {
	return world{store: newStore(), input: input, limit: limit, comings: make([]int, statements)}
}

// end ends the run. Whatever is at work then fails, part by part, and does nothing more.
func (w *world) end(how int) { w.how = how }

func (w *world) over() bool { return w.how != goesOn }

// come comes to a statement, if there is a step left for it.
func (w *world) come(at int) bool {
	if w.steps == w.limit {
		w.end(api.RanLimit)
		return false
	}
	w.steps++
	w.comings[at]++
	return true
}

// read is what comes of reading a place; it fails if that is INPUT, and no line is left.
func (w *world) read(p place) (string, bool) {
	if p != variable("INPUT") {
		return w.has(p), true
	}
	if len(w.input) == 0 {
		return "", false
	}
	line := w.input[0]
	w.input = w.input[1:]
	return line, true
}

// give gives a place a text. It fails if that can't be had there, and also if it ends the run.
func (w *world) give(p place, text string) bool {
	if p == variable("INPUT") || len(text) > api.MaxText {
		return false
	}
	if p == variable("OUTPUT") {
		return w.room(w.tell(text))
	}
	return w.room(w.put(p, text))
}

// room ends the run, if there was none for what was to be given.
func (w *world) room(some bool) bool {
	if !some {
		w.end(api.RanMuch)
	}
	return some
}

// tell tells a line, unless more would have been told then than may be. It is cloned for the reason for which put clones.
func (w *world) tell(line string) bool {
	if w.spoken+len(line)+1 > api.MaxStore {
		return false
	}
	w.spoken += len(line) + 1
	w.output = append(w.output, strings.Clone(line))
	return true
}

// ran is what came of the run.
func (w *world) ran() api.Ran {
	vars, items := w.list()
	return api.Ran{Output: w.output, How: w.how, Steps: w.steps, Vars: vars, Items: items}
}
