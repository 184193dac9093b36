package fold

import (
	"slices"
	"strings"

	"scanfail/api"
	"scanfail/pats"
	"scanfail/tune"
)

// quicker is a statement whose expressions, pattern and ways on are made quicker, all of that in new memory.
// What its kind does not name stays, and is not looked at: nobody has said that it has an end.
func (w *ways) quicker(s api.Statement) api.Statement {
	s.Label, s.Name, s.Entry = strings.Clone(s.Label), strings.Clone(s.Name), strings.Clone(s.Entry)
	s.Params, s.Locals = copied(s.Params), copied(s.Locals)
	s.Always, s.Yes, s.Noes = w.end(s.Always), w.end(s.Yes), w.end(s.Noes)
	switch s.Kind {
	case api.StEval:
		s.Value = folded(s.Value)
	case api.StMatch:
		s.Value, s.Pat = folded(s.Value), simpler(s.Pat)
	case api.StAssign:
		s.Target, s.Value = folded(s.Target), folded(s.Value)
	case api.StReplace:
		s.Target, s.Value, s.Pat = folded(s.Target), folded(s.Value), simpler(s.Pat)
	case api.StRule:
		s.Pat = simpler(s.Pat)
	}
	return s
}

// copied is a list of texts in new memory.
func copied(l []string) []string {
	out := slices.Clone(l)
	for i := range out {
		out[i] = strings.Clone(out[i])
	}
	return out
}

// simpler is p made simpler, if it then calls the same names. With fewer of them a match might find something that has failed for too many rules.
func simpler(p api.Pat) api.Pat {
	simple, _ := tune.Simplify(p)
	_, before, _ := pats.Names(p)
	_, after, _ := pats.Names(simple)
	if slices.Equal(before, after) {
		return simple
	}
	return copiedPat(p)
}

// copiedPat is p in new memory.
func copiedPat(p api.Pat) api.Pat {
	p.Text, p.Name = strings.Clone(p.Text), strings.Clone(p.Name)
	p.Kids = slices.Clone(p.Kids)
	for i := range p.Kids {
		p.Kids[i] = copiedPat(p.Kids[i])
	}
	return p
}
