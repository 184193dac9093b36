package desk

import (
	"slices"
	"strings"

	"scanfail/api"
)

// program: its statements, and the lines that come in. A change puts another one in its place, so that what it was is still there to be gone back to.
// Programs may share their lists' memory: what one writes behind the end of another one's list no other one has, but those that were undone.
type program struct {
	statements []api.Statement
	input      []string
}

// change of what a name stands for: the program that it stood for ahead of that, nil for none.
type change struct {
	name string
	was  *program
}

// change makes a name stand for another program, nil for none, in such a way that this can be undone.
func (d *Desk) change(name string, now *program) (string, api.Errno) {
	name = strings.Clone(name) // a piece of the line that was handed in, which is not kept
	d.changes = append(d.changes, change{name: name, was: d.programs[name]})
	d.put(name, now)
	return "ok", api.OK
}

// undo goes back to what was ahead of the last change.
func (d *Desk) undo() (string, api.Errno) {
	last := len(d.changes) - 1
	if last < 0 {
		return "", api.ErrState
	}
	c := d.changes[last]
	d.changes = slices.Delete(d.changes, last, last+1) // so that nothing of it stays in the list's room
	d.put(c.name, c.was)
	return "ok", api.OK
}

func (d *Desk) put(name string, p *program) {
	if p == nil {
		delete(d.programs, name)
		return
	}
	d.programs[name] = p
}
