package gram_test

import (
	"slices"
	"strings"

	"scanfail/api"
)

// modelReach are the names that Reach must tell, where nothing is wrong: names are put in until no rule that is called calls another one.
func modelReach(l []api.Rule, p api.Pat) []string {
	in := map[string]bool{}
	each(p, func(node api.Pat) {
		if node.Kind == api.PatCall {
			in[node.Name] = true
		}
	})
	for size := -1; size < len(in); {
		size = len(in)
		for _, r := range l {
			if !in[r.Name] {
				continue
			}
			each(r.Pat, func(node api.Pat) {
				if node.Kind == api.PatCall {
					in[node.Name] = true
				}
			})
		}
	}
	return sorted(in)
}

func each(p api.Pat, do func(node api.Pat)) {
	do(p)
	for _, kid := range p.Kids {
		each(kid, do)
	}
}

func sorted(in map[string]bool) []string {
	var out []string
	for name := range in {
		out = append(out, name)
	}
	slices.Sort(out)
	return out
}

func patternOf(l []api.Rule, name string) (api.Pat, bool) {
	for _, r := range l {
		if r.Name == name {
			return r.Pat, true
		}
	}
	return api.Pat{}, false
}

// model holds, for the names and places, where what is called may end: none at first; they grow all together, over and over, until none does.
type model struct {
	subject string
	ends    map[string][]places
}

type places map[int]bool

// modelEnds is what Ends must answer, where nothing is wrong with the pattern and the rules.
func modelEnds(l []api.Rule, p api.Pat, subject string, at int) ([]int, api.Errno) {
	whole := []api.Pat{p}
	m := model{subject, map[string][]places{}}
	for _, name := range modelReach(l, p) {
		q, ok := patternOf(l, name)
		if !ok {
			return nil, api.ErrName
		}
		whole = append(whole, q)
		m.ends[name] = make([]places, len(subject)+1)
	}
	for _, q := range whole {
		shut := false
		each(q, func(node api.Pat) { shut = shut || node.Kind == api.PatFence || node.Kind == api.PatAbort })
		if shut {
			return nil, api.ErrKind
		}
	}
	if len(subject) > api.MaxGram {
		return nil, api.ErrMuch
	}
	if at < 0 || at > len(subject) {
		return nil, api.ErrRange
	}
	for m.grow(l) {
	}
	var out []int
	for to := range m.from(p, at) {
		out = append(out, to)
	}
	slices.Sort(out)
	return out, api.OK
}

func (m *model) grow(l []api.Rule) bool {
	grown := false
	for name, all := range m.ends {
		q, _ := patternOf(l, name)
		for at := range all {
			now := m.from(q, at)
			grown = grown || len(now) > len(all[at])
			all[at] = now
		}
	}
	return grown
}

// from is where p may end from a place on, as far as is known of what is called.
func (m *model) from(p api.Pat, at int) places {
	switch p.Kind {
	case api.PatCat:
		here := places{at: true}
		for _, kid := range p.Kids {
			here = m.fromAll(kid, here)
		}
		return here
	case api.PatAlt:
		out := places{}
		for _, kid := range p.Kids {
			out.put(m.from(kid, at))
		}
		return out
	case api.PatArbno:
		out := places{at: true}
		for size := 0; size < len(out); {
			size = len(out)
			out.put(m.fromAll(p.Kids[0], out))
		}
		return out
	case api.PatCond, api.PatImm:
		return m.from(p.Kids[0], at)
	case api.PatCall:
		out := places{}
		out.put(m.ends[p.Name][at])
		return out
	}
	out := places{}
	for to := range len(m.subject) + 1 {
		if fits(p, m.subject, at, to) {
			out[to] = true
		}
	}
	return out
}

func (m *model) fromAll(p api.Pat, from places) places {
	out := places{}
	for at := range from {
		out.put(m.from(p, at))
	}
	return out
}

func (s places) put(t places) {
	for at := range t {
		s[at] = true
	}
}

// fits tells whether a node without kids has a way between two places of the subject.
func fits(p api.Pat, subject string, at, to int) bool {
	if to < at {
		return false
	}
	between, rest := subject[at:to], subject[to:]
	in := func(s string) bool { return s != "" && strings.Trim(s, p.Text) == "" } // of one byte each, all of them
	begins := rest != "" && in(rest[:1])
	switch p.Kind {
	case api.PatLit:
		return between == p.Text
	case api.PatLen:
		return len(between) == p.N
	case api.PatAny:
		return len(between) == 1 && in(between)
	case api.PatNotAny:
		return len(between) == 1 && !in(between)
	case api.PatSpan:
		return in(between) && !begins
	case api.PatBreak:
		return begins && !strings.ContainsAny(between, p.Text)
	case api.PatBreakX:
		return begins
	case api.PatTab:
		return to == p.N
	case api.PatRTab:
		return len(rest) == p.N
	case api.PatPos:
		return between == "" && to == p.N
	case api.PatRPos:
		return between == "" && len(rest) == p.N
	case api.PatRem:
		return rest == ""
	case api.PatArb:
		return true
	case api.PatBal:
		return between != "" && inPairs(between)
	case api.PatCursor:
		return between == ""
	}
	return false
}

// inPairs tells whether nothing is left of a text's brackets when pairs are taken out of it, over and over.
func inPairs(s string) bool {
	left := strings.Map(func(r rune) rune {
		if r == '(' || r == ')' {
			return r
		}
		return -1
	}, s)
	for strings.Contains(left, "()") {
		left = strings.ReplaceAll(left, "()", "")
	}
	return left == ""
}

// modelLeft are the names that Left must tell, where nothing is wrong.
func modelLeft(l []api.Rule) []string {
	out := map[string]bool{}
	for _, r := range l {
		met := map[string]bool{}
		var follow func(name string)
		follow = func(name string) {
			q, ok := patternOf(l, name)
			if !ok {
				return
			}
			for next := range beginsWith(l, q) {
				if !met[next] {
					met[next] = true
					follow(next)
				}
			}
		}
		follow(r.Name)
		if met[r.Name] {
			out[r.Name] = true
		}
	}
	return sorted(out)
}

func beginsWith(l []api.Rule, p api.Pat) map[string]bool {
	out := map[string]bool{}
	if p.Kind == api.PatCall {
		out[p.Name] = true
	}
	kids := p.Kids
	if p.Kind == api.PatCat {
		end := slices.IndexFunc(kids, func(kid api.Pat) bool { return !maybeNothing(l, kid, nil) })
		if end >= 0 {
			kids = kids[:end+1]
		}
	}
	for _, kid := range kids {
		for name := range beginsWith(l, kid) {
			out[name] = true
		}
	}
	return out
}

// maybeNothing tells whether p may match nothing, when nobody calls those by whom it was called: the shortest way to nothing does not.
func maybeNothing(l []api.Rule, p api.Pat, by []string) bool {
	nothing := func(kid api.Pat) bool { return maybeNothing(l, kid, by) }
	switch p.Kind {
	case api.PatCall:
		q, ok := patternOf(l, p.Name)
		return ok && !slices.Contains(by, p.Name) && maybeNothing(l, q, append(slices.Clone(by), p.Name))
	case api.PatCat:
		return !slices.ContainsFunc(p.Kids, func(kid api.Pat) bool { return !nothing(kid) })
	case api.PatAlt, api.PatCond, api.PatImm:
		return slices.ContainsFunc(p.Kids, nothing)
	case api.PatLit:
		return p.Text == ""
	case api.PatLen:
		return p.N == 0
	}
	not := []int{api.PatAny, api.PatNotAny, api.PatSpan, api.PatBal, api.PatFail, api.PatAbort}
	return !slices.Contains(not, p.Kind)
}
