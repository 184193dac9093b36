package scan_test

import (
	"iter"
	"slices"
	"strconv"
	"strings"

	"scanfail/api"
)

// model tries the ways of patterns as the document tells them: what is behind a node is what is done in the range over its ways.
type model struct {
	rules   []api.Rule
	subject string
	fuel    int
	ticks   int
	said    []api.Gift
}

// spot is where a way ends, and what was given on it.
type spot struct {
	at    int
	given []api.Gift
}

// stop is why it does not go on: an error, or (OK) that nobody may look further.
type stop struct{ err api.Errno }

func (m *model) ways(p api.Pat, from spot) iter.Seq[spot] {
	return func(yield func(spot) bool) {
		if m.ticks == m.fuel {
			panic(stop{api.ErrFuel})
		}
		m.ticks++
		m.inner(p, from, yield)
	}
}

func (m *model) inner(p api.Pat, from spot, yield func(spot) bool) bool {
	switch p.Kind {
	case api.PatFence:
		if !yield(from) {
			return false
		}
		panic(stop{})
	case api.PatAbort:
		panic(stop{})
	case api.PatCat:
		return m.cat(p.Kids, from, yield)
	case api.PatAlt:
		for _, kid := range p.Kids {
			for s := range m.ways(kid, from) {
				if !yield(s) {
					return false
				}
			}
		}
	case api.PatArbno:
		return m.arbno(p.Kids[0], from, yield)
	case api.PatCond, api.PatImm:
		return m.naming(p, from, yield)
	case api.PatCursor:
		m.said = append(m.said, api.Gift{Name: p.Name, Text: strconv.Itoa(from.at)})
		return yield(from)
	case api.PatCall:
		return m.call(p.Name, from, yield)
	default:
		for to := range len(m.subject) + 1 {
			if m.fits(p, from.at, to) && !yield(spot{to, from.given}) {
				return false
			}
		}
	}
	return true
}

func (m *model) cat(kids []api.Pat, from spot, yield func(spot) bool) bool {
	if len(kids) == 0 {
		return yield(from)
	}
	for s := range m.ways(kids[0], from) {
		if !m.cat(kids[1:], s, yield) {
			return false
		}
	}
	return true
}

func (m *model) arbno(kid api.Pat, from spot, yield func(spot) bool) bool {
	if !yield(from) {
		return false
	}
	for s := range m.ways(kid, from) {
		if s.at != from.at && !m.arbno(kid, s, yield) {
			return false
		}
	}
	return true
}

func (m *model) naming(p api.Pat, from spot, yield func(spot) bool) bool {
	for s := range m.ways(p.Kids[0], from) {
		gift := api.Gift{Name: p.Name, Text: m.subject[from.at:s.at]}
		if p.Kind == api.PatImm {
			m.said = append(m.said, gift)
		} else {
			s.given = append(slices.Clone(s.given), gift)
		}
		if !yield(s) {
			return false
		}
	}
	return true
}

func (m *model) call(name string, from spot, yield func(spot) bool) bool {
	for _, r := range m.rules {
		if r.Name != name {
			continue
		}
		for s := range m.ways(r.Pat, from) {
			if !yield(s) {
				return false
			}
		}
		return true
	}
	panic(stop{api.ErrName})
}

// fits tells whether a node without kids has a way between two places of the subject; all of these have theirs rising.
func (m *model) fits(p api.Pat, at, to int) bool {
	if to < at {
		return false
	}
	between, rest := m.subject[at:to], m.subject[to:]
	begins := rest != "" && strings.IndexByte(p.Text, rest[0]) >= 0
	switch p.Kind {
	case api.PatLit:
		return between == p.Text
	case api.PatLen:
		return len(between) == p.N
	case api.PatAny:
		return len(between) == 1 && allOf(between, p.Text)
	case api.PatNotAny:
		return len(between) == 1 && !allOf(between, p.Text)
	case api.PatSpan:
		return between != "" && allOf(between, p.Text) && !begins
	case api.PatBreak:
		return begins && noneOf(between, p.Text)
	case api.PatBreakX:
		return begins
	case api.PatTab:
		return to == p.N
	case api.PatRTab:
		return len(rest) == p.N
	case api.PatPos:
		return between == "" && to == p.N
	case api.PatRPos:
		return between == "" && len(rest) == p.N
	case api.PatRem:
		return rest == ""
	case api.PatArb:
		return true
	case api.PatBal:
		return between != "" && inPairs(between)
	}
	return false
}

func allOf(s, set string) bool {
	for i := range len(s) {
		if strings.IndexByte(set, s[i]) < 0 {
			return false
		}
	}
	return true
}

func noneOf(s, set string) bool {
	for i := range len(s) {
		if strings.IndexByte(set, s[i]) >= 0 {
			return false
		}
	}
	return true
}

// inPairs tells whether nothing is left of a text's brackets when pairs are taken out of it, over and over.
func inPairs(s string) bool {
	var left []byte
	for i := range len(s) {
		if s[i] == '(' || s[i] == ')' {
			left = append(left, s[i])
		}
	}
	brackets := string(left)
	for strings.Contains(brackets, "()") {
		brackets = strings.ReplaceAll(brackets, "()", "")
	}
	return brackets == ""
}

// halted runs f, and tells whether it was stopped, and by what.
func halted(f func()) (shut bool, err api.Errno) {
	defer func() {
		if why := recover(); why != nil {
			err = why.(stop).err
			shut = err == api.OK
		}
	}()
	f()
	return false, api.OK
}

// modelMatch is what Match must answer, where nothing is wrong with what it is asked.
func modelMatch(q question, anchored bool) (out api.Match, err api.Errno) {
	m := &model{rules: q.rules, subject: q.subject, fuel: q.fuel}
	_, err = halted(func() {
		for from := range len(q.subject) + 1 {
			for s := range m.ways(q.p, spot{at: from}) {
				out = api.Match{Found: true, From: from, To: s.at, Given: s.given}
				return
			}
			if anchored {
				return
			}
		}
	})
	if err != api.OK {
		return api.Match{}, err
	}
	out.Said, out.Ticks = m.said, m.ticks
	return out, api.OK
}

// modelWays is what Ways must answer, where nothing is wrong with what it is asked, and how often it comes to a node.
func modelWays(q question, at, most int) (out []api.Way, cut bool, err api.Errno, ticks int) {
	m := &model{rules: q.rules, subject: q.subject, fuel: q.fuel}
	cut, err = halted(func() {
		if most == 0 {
			return
		}
		for s := range m.ways(q.p, spot{at: at}) {
			if out = append(out, api.Way{To: s.at, Given: s.given}); len(out) == most {
				return
			}
		}
	})
	if err != api.OK {
		return nil, false, err, m.ticks
	}
	return out, cut, api.OK, m.ticks
}
