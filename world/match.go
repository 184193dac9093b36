package world

import (
	"scanfail/api"
	"scanfail/pats"
	"scanfail/scan"
)

// patterns is what is known of a program's patterns.
type patterns struct {
	named  map[string]int // of a pattern's name: which statement gave it
	called [][]string     // of each statement: the names that its pattern calls
}

func newPatterns(l []api.Statement) patterns {
	p := patterns{named: map[string]int{}, called: make([][]string, len(l))}
	for at, s := range l {
		switch s.Kind {
		case api.StMatch, api.StReplace, api.StRule:
			_, p.called[at], _ = pats.Names(s.Pat)
		}
	}
	return p
}

// reach are the names that a statement's pattern calls, and those that their patterns call, each once. It fails if they are too many.
func (p *patterns) reach(at int) ([]string, bool) {
	var out []string
	seen := map[string]int{}
	open := []int{at}
	for len(open) > 0 {
		last := len(open) - 1
		names := p.called[open[last]]
		open = open[:last]
		for _, name := range names {
			if seen[name]++; seen[name] > 1 {
				continue
			}
			out = append(out, name)
			if rule, ok := p.named[name]; ok {
				open = append(open, rule)
			}
		}
		if len(out) > api.MaxRules {
			return nil, false
		}
	}
	return out, true
}

// Rule gives a statement's pattern its name, from now on.
func (w *World) Rule(at int) { w.named[w.program[at].Name] = at }

// rules are those of a match of a statement's pattern. It fails if they are too many.
func (w *World) rules(at int) ([]api.Rule, bool) {
	names, ok := w.reach(at)
	if !ok {
		return nil, false
	}
	out := make([]api.Rule, len(names))
	for i, name := range names {
		if rule, ok := w.named[name]; ok {
			out[i] = api.Rule{Name: name, Pat: w.program[rule].Pat}
		} else {
			out[i] = api.Rule{Name: name, Pat: api.Pat{Kind: api.PatLit, Text: w.has(Variable(name))}}
		}
	}
	return out, true
}

// Match looks for a statement's pattern in a text. It fails if nothing is found.
func (w *World) Match(at int, subject string) (api.Match, bool) {
	rules, ok := w.rules(at)
	if !ok {
		return api.Match{}, false
	}
	m, err := scan.Match(rules, w.program[at].Pat, subject, false, w.limit-w.steps)
	if err == api.ErrFuel {
		w.steps = w.limit
		w.End(api.RanLimit)
	}
	if err != api.OK {
		return api.Match{}, false
	}
	w.steps += m.Ticks
	return m, w.hand(m.Said) && w.hand(m.Given) && m.Found
}

// hand gives variables what a match has for them; what can't be given is left. It fails if that ends the run.
func (w *World) hand(l []api.Gift) bool {
	for _, g := range l {
		w.Give(Variable(g.Name), g.Text)
		if w.Over() {
			return false
		}
	}
	return true
}
