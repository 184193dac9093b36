package gram

import (
	"scanfail/api"
	"scanfail/scan"
	"scanfail/sets"
)

// places is a set of places of a subject.
type places [api.MaxGram/64 + 1]uint64

// just is the set of one place.
func just(at int) places {
	var out places
	out[at/64] = 1 << (at % 64)
	return out
}

func (s places) has(at int) bool { return s[at/64]>>(at%64)&1 == 1 }

// ended is the kind of the step behind a whole pattern.
const ended = 0

// step is what one comes to on the way through a pattern: a node, or the pattern's end. PatCat, PatCond and PatImm are no steps: one comes to their kids at once.
type step struct {
	kind    int
	behind  int     // which step
	forks   []int   // PatAlt, PatArbno: the steps of which each one may be next
	pattern int     // PatCall: which one is called; ended: which one ends
	leaf    api.Pat // any other one
}

// chart holds for each step, and each place, where a pattern may have begun that has come to it there.
type chart struct {
	grammar
	subject     string
	steps       []step
	first, last []int      // of each pattern: the step that it begins with, and the one behind it
	callers     [][]int    // of each pattern: the steps that call it
	began       [][]places // of each step: nil, if nobody has come to it yet
	todo        [][]coming // of each place
}

// coming is a step that patterns have come to, which began at these places, and which have not yet gone on.
type coming struct {
	step  int
	began places
}

func newChart(g grammar, subject string) *chart {
	n := len(g.patterns)
	c := &chart{grammar: g, subject: subject, first: make([]int, n), last: make([]int, n), callers: make([][]int, n), todo: make([][]coming, len(subject)+1)}
	for i, p := range g.patterns {
		c.last[i] = c.put(step{kind: ended, pattern: i})
		c.first[i] = c.lay(p, c.last[i])
	}
	c.began = make([][]places, len(c.steps))
	return c
}

func (c *chart) put(s step) int {
	c.steps = append(c.steps, s)
	return len(c.steps) - 1
}

// lay puts the steps of p, with a step behind it, and tells which one it begins with.
func (c *chart) lay(p api.Pat, behind int) int {
	switch p.Kind {
	case api.PatCat:
		for i := len(p.Kids) - 1; i >= 0; i-- {
			behind = c.lay(p.Kids[i], behind)
		}
		return behind
	case api.PatCond, api.PatImm:
		return c.lay(p.Kids[0], behind)
	case api.PatAlt:
		var forks []int
		for _, kid := range p.Kids {
			forks = append(forks, c.lay(kid, behind))
		}
		return c.put(step{kind: p.Kind, forks: forks})
	case api.PatArbno:
		here := c.put(step{kind: p.Kind})
		kid := c.lay(p.Kids[0], here)
		c.steps[here].forks = []int{behind, kid}
		return here
	case api.PatCall:
		pattern := c.number[p.Name]
		here := c.put(step{kind: p.Kind, behind: behind, pattern: pattern})
		c.callers[pattern] = append(c.callers[pattern], here)
		return here
	}
	return c.put(step{kind: p.Kind, behind: behind, leaf: short(p)})
}

// short is a leaf with each byte of its text once, where they are a set: it is asked for its ways at many places.
func short(p api.Pat) api.Pat {
	switch p.Kind {
	case api.PatAny, api.PatNotAny, api.PatSpan, api.PatBreak, api.PatBreakX:
		p.Text = sets.Text(sets.Of(p.Text))
	}
	return p
}

// ends are the places at which the first pattern may end that begins at a place.
// Nobody goes back in the subject: when the comings to a place are done, all that ends there, and began ahead of it, is known.
func (c *chart) ends(from int) []int {
	c.come(c.first[0], from, just(from))
	for at := range c.todo {
		for len(c.todo[at]) > 0 {
			last := len(c.todo[at]) - 1
			next := c.todo[at][last]
			c.todo[at] = c.todo[at][:last]
			c.goOn(next, at)
		}
	}
	var out []int
	for at := range c.todo {
		if c.begun(c.last[0], at).has(from) {
			out = append(out, at)
		}
	}
	return out
}

// begun is where the patterns began that have come to a step at a place.
func (c *chart) begun(which, at int) places {
	if c.began[which] == nil {
		return places{}
	}
	return c.began[which][at]
}

// come notes that patterns which began at these places come to a step; those that did so already have gone on from there.
func (c *chart) come(which, at int, began places) {
	if c.began[which] == nil {
		c.began[which] = make([]places, len(c.todo))
	}
	known := &c.began[which][at]
	var fresh places
	for i := range began {
		fresh[i] = began[i] &^ known[i]
		known[i] |= fresh[i]
	}
	if fresh != (places{}) {
		c.todo[at] = append(c.todo[at], coming{which, fresh})
	}
}

// goOn comes to the steps that may be next.
func (c *chart) goOn(from coming, at int) {
	s := &c.steps[from.step]
	switch s.kind {
	case api.PatAlt, api.PatArbno:
		for _, to := range s.forks {
			c.come(to, at, from.began)
		}
	case api.PatCall:
		c.come(c.first[s.pattern], at, just(at))
		if c.begun(c.last[s.pattern], at).has(at) { // it has ended here already, and will not do so again
			c.come(s.behind, at, from.began)
		}
	case ended:
		c.comeBack(s.pattern, at, from.began)
	default:
		for _, to := range c.leafEnds(s.leaf, at) {
			c.come(s.behind, to, from.began)
		}
	}
}

// comeBack goes on behind the steps that called a pattern where it began, now that it ends.
func (c *chart) comeBack(pattern, at int, began places) {
	for from := range at + 1 {
		if !began.has(from) {
			continue
		}
		for _, caller := range c.callers[pattern] {
			if waiting := c.begun(caller, from); waiting != (places{}) {
				c.come(c.steps[caller].behind, at, waiting)
			}
		}
	}
}

// leafEnds are where the ways end of a node without kids that calls nobody: it is the only one that is come to.
func (c *chart) leafEnds(leaf api.Pat, at int) []int {
	ways, _, _ := scan.Ways(nil, leaf, c.subject, at, api.MaxWays, 1)
	var out []int
	for _, w := range ways {
		out = append(out, w.To)
	}
	return out
}
