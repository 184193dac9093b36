package gram

import (
	"slices"
	"strings"

	"scanfail/api"
	"scanfail/scan"
	"scanfail/tune"
)

// Left are the names of the rules that may come to themselves without a byte ahead.
func Left(rules []api.Rule) ([]string, api.Errno) {
	if err := scan.Rules(rules); err != api.OK {
		return nil, err
	}
	comes := allComings(newBeginnings(rules).comings())
	var out []string
	for i, r := range rules {
		if comes[i][i] {
			out = append(out, strings.Clone(r.Name))
		}
	}
	slices.Sort(out)
	return out, api.OK
}

// nobody is the rule of a name that no rule has.
const nobody = -1

// part is a pattern as far as it matters how it begins.
type part struct {
	kind int
	null bool // whether it may match nothing, where neither kids nor rules say so
	rule int  // PatCall: which one is called
	kids []part
}

// beginnings is what is known of how the rules' patterns begin.
type beginnings struct {
	parts []part
	null  []bool // of each rule: whether it may match nothing
}

func newBeginnings(rules []api.Rule) *beginnings {
	b := &beginnings{null: make([]bool, len(rules))}
	number := numbers(rules)
	for _, r := range rules {
		b.parts = append(b.parts, partOf(r.Pat, number))
	}
	for again := true; again; { // a rule may hang on one that stands behind it
		again = false
		for i := range b.parts {
			if !b.null[i] && b.mayBeNothing(&b.parts[i]) {
				b.null[i], again = true, true
			}
		}
	}
	return b
}

func partOf(p api.Pat, number map[string]int) part {
	out := part{kind: p.Kind}
	switch p.Kind {
	case api.PatCall:
		out.rule = nobody
		if rule, ok := number[p.Name]; ok {
			out.rule = rule
		}
	case api.PatArbno:
		out.null = true // as First says of all of them: it need not look through the kids
	case api.PatCat, api.PatAlt, api.PatCond, api.PatImm:
	default:
		_, out.null, _ = tune.First(p)
	}
	for _, kid := range p.Kids {
		out.kids = append(out.kids, partOf(kid, number))
	}
	return out
}

// mayBeNothing tells whether a part may match nothing, as far as is known of the rules.
func (b *beginnings) mayBeNothing(p *part) bool {
	switch p.kind {
	case api.PatCall:
		return p.rule != nobody && b.null[p.rule]
	case api.PatCat:
		for i := range p.kids {
			if !b.mayBeNothing(&p.kids[i]) {
				return false
			}
		}
		return true
	case api.PatAlt, api.PatCond, api.PatImm:
		for i := range p.kids {
			if b.mayBeNothing(&p.kids[i]) {
				return true
			}
		}
	}
	return p.null
}

// comings tell of each rule which ones it may begin with.
func (b *beginnings) comings() [][]bool {
	out := make([][]bool, len(b.parts))
	for i := range b.parts {
		out[i] = make([]bool, len(b.parts))
		b.begin(&b.parts[i], out[i])
	}
	return out
}

// begin marks the rules that a part may begin with.
func (b *beginnings) begin(p *part, with []bool) {
	if p.kind == api.PatCall && p.rule != nobody {
		with[p.rule] = true
	}
	for i := range p.kids {
		kid := &p.kids[i]
		b.begin(kid, with)
		if p.kind == api.PatCat && !b.mayBeNothing(kid) {
			return
		}
	}
}

// allComings tell of each rule to which ones it comes, by others too.
func allComings(comes [][]bool) [][]bool {
	for by := range comes {
		for from := range comes {
			if !comes[from][by] {
				continue
			}
			for to := range comes {
				comes[from][to] = comes[from][to] || comes[by][to]
			}
		}
	}
	return comes
}
