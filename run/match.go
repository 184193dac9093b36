package run

import (
	"scanfail/api"
	"scanfail/pats"
	"scanfail/scan"
)

// patterns is what is known of a program's patterns.
type patterns struct {
	named  map[string]int // of a pattern's name: which statement gave it
	called [][]string     // of each statement: the names that its pattern calls
}

func newPatterns(l []api.Statement) patterns {
	p := patterns{named: map[string]int{}, called: make([][]string, len(l))}
	for at, s := range l {
		switch s.Kind {
		case api.StMatch, api.StReplace, api.StRule:
			_, p.called[at], _ = pats.Names(s.Pat)
		}
	}
	return p
}

// reach are the names that a statement's pattern calls, and those that their patterns call, each once. It fails if they are too many.
func (p *patterns) reach(at int) ([]string, bool) {
	var out []string
	seen := map[string]int{}
	open := []int{at}
	for len(open) > 0 {
		last := len(open) - 1
		names := p.called[open[last]]
		open = open[:last]
		for _, name := range names {
			if seen[name]++; seen[name] > 1 {
				continue
			}
			out = append(out, name)
			if rule, ok := p.named[name]; ok {
				open = append(open, rule)
			}
		}
		if len(out) > api.MaxRules {
			return nil, false
		}
	}
	return out, true
}

// rules are those of a match of a statement's pattern. It fails if they are too many.
func (r *runner) rules(at int) ([]api.Rule, bool) {
	names, ok := r.reach(at)
	if !ok {
		return nil, false
	}
	out := make([]api.Rule, len(names))
	for i, name := range names {
		if rule, ok := r.named[name]; ok {
			out[i] = api.Rule{Name: name, Pat: r.program[rule].Pat}
		} else {
			out[i] = api.Rule{Name: name, Pat: api.Pat{Kind: api.PatLit, Text: r.has(variable(name))}}
		}
	}
	return out, true
}

// match looks for a statement's pattern in a text. It fails if nothing is found.
func (r *runner) match(at int, subject string) (api.Match, bool) {
	rules, ok := r.rules(at)
	if !ok {
		return api.Match{}, false
	}
	m, err := scan.Match(rules, r.program[at].Pat, subject, false, r.limit-r.steps)
	if err == api.ErrFuel {
		r.steps = r.limit
		r.end(api.RanLimit)
	}
	if err != api.OK {
		return api.Match{}, false
	}
	r.steps += m.Ticks
	return m, r.hand(m.Said) && r.hand(m.Given) && m.Found
}

// hand gives variables what a match has for them; what can't be given is left. It fails if that ends the run.
func (r *runner) hand(l []api.Gift) bool {
	for _, g := range l {
		r.give(variable(g.Name), g.Text)
		if r.over() {
			return false
		}
	}
	return true
}
