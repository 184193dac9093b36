package tune_test

import (
	"slices"
	"sort"
	"strings"

	"scanfail/api"
)

// modelSimple takes one small step after the other, until there is none.
func modelSimple(p api.Pat) api.Pat {
	q := api.Pat{Kind: p.Kind}
	switch k := p.Kind; {
	case k == 1 || k >= 3 && k <= 7:
		q.Text = p.Text
	case k == 2 || k >= 8 && k <= 11:
		q.N = p.N
	case k >= 21:
		q.Name = p.Name
	}
	for _, kid := range p.Kids {
		q.Kids = append(q.Kids, modelSimple(kid))
	}
	for modelStep(&q) {
	}
	return q
}

// modelStep takes the first step that can be taken.
func modelStep(p *api.Pat) bool {
	empty := func(p api.Pat) bool { return p.Kind == api.PatLit && p.Text == "" }
	before := *p
	switch p.Kind {
	case api.PatAny, api.PatNotAny, api.PatSpan, api.PatBreak, api.PatBreakX:
		p.Text = modelSorted(p.Text)
		if p.Kind == api.PatAny && len(p.Text) == 1 {
			p.Kind = api.PatLit
		}
	case api.PatLen:
		if p.N == 0 {
			*p = lit("")
		}
	case api.PatRTab:
		if p.N == 0 {
			*p = bare(api.PatRem)
		}
	case api.PatArbno:
		switch kid := p.Kids[0]; {
		case kid.Kind == api.PatFail, empty(kid):
			*p = lit("")
		case kid.Kind == api.PatLen && kid.N == 1:
			*p = bare(api.PatArb)
		}
	case api.PatCond, api.PatImm:
		if kid := p.Kids[0]; kid.Kind == api.PatFail || kid.Kind == api.PatAbort {
			*p = kid
		}
	case api.PatCat:
		return modelList(p, empty, func(kid api.Pat) bool { return kid.Kind == api.PatFail || kid.Kind == api.PatAbort }, lit(""))
	case api.PatAlt:
		return modelList(p, func(kid api.Pat) bool { return kid.Kind == api.PatFail }, func(kid api.Pat) bool { return kid.Kind == api.PatAbort }, bare(api.PatFail))
	}
	return !same(*p, before)
}

func modelSorted(s string) string {
	b := []byte(s)
	sort.Slice(b, func(i, j int) bool { return b[i] < b[j] })
	return string(slices.Compact(b))
}

// modelList takes a step with PatCat or PatAlt.
func modelList(p *api.Pat, idle, last func(kid api.Pat) bool, nothing api.Pat) bool {
	kids := p.Kids
	if i := slices.IndexFunc(kids, func(kid api.Pat) bool { return kid.Kind == p.Kind }); i >= 0 {
		p.Kids = slices.Concat(kids[:i], kids[i].Kids, kids[i+1:])
		return true
	}
	if i := slices.IndexFunc(kids, idle); i >= 0 {
		p.Kids = slices.Concat(kids[:i], kids[i+1:])
		return true
	}
	if i := slices.IndexFunc(kids, last); i >= 0 && i < len(kids)-1 {
		p.Kids = kids[:i+1]
		return true
	}
	for i := range max(len(kids)-1, 0) {
		if both, ok := modelBoth(p.Kind, kids[i], kids[i+1]); ok {
			p.Kids = slices.Concat(kids[:i], []api.Pat{both}, kids[i+2:])
			return true
		}
	}
	switch len(kids) {
	case 0:
		*p = nothing
	case 1:
		*p = kids[0]
	}
	return false // its one kid has taken all its steps
}

func modelBoth(kind int, a, b api.Pat) (api.Pat, bool) {
	if kind == api.PatAlt {
		one := func(p api.Pat) bool { return p.Kind == api.PatAny || p.Kind == api.PatLit && len(p.Text) == 1 }
		if both := modelSorted(a.Text + b.Text); one(a) && one(b) && len(both) == len(a.Text)+len(b.Text) {
			return text(api.PatAny, both), true
		}
		return api.Pat{}, false
	}
	if a.Kind == api.PatLit && b.Kind == api.PatLit && len(a.Text+b.Text) <= 65536 {
		return lit(a.Text + b.Text), true
	}
	if a.Kind == api.PatLen && b.Kind == api.PatLen && a.N+b.N <= 65536 {
		return length(a.N + b.N), true
	}
	return api.Pat{}, false
}

// endlessly stands for -1, and for the least of what never matches: it is above all sums.
const endlessly = 1 << 40

// modelLength bounds nothing before its end.
func modelLength(p api.Pat) (least, most int, err api.Errno) {
	least, most = modelSums(p)
	if least > most {
		return 0, 0, api.ErrNone
	}
	if most > 65536 {
		most = -1
	}
	return min(least, 65537), most, api.OK
}

// modelSums is how few and how many; of what never matches they stand the other way round, so that they say nothing where the least and the greatest are taken.
func modelSums(p api.Pat) (least, most int) {
	switch k := p.Kind; {
	case k == 1:
		return len(p.Text), len(p.Text)
	case k == 2:
		return p.N, p.N
	case k == 3 || k == 4:
		return 1, 1
	case k == 5 || k == 14:
		return 1, endlessly
	case k == 10 || k == 11 || k == 16 || k == 23:
		return 0, 0
	case k == 15 || k == 17:
		return endlessly, -1
	case k == 19:
		least, most = endlessly, -1
		for _, kid := range p.Kids {
			l, m := modelSums(kid)
			least, most = min(least, l), max(most, m)
		}
		return least, most
	case k == 18:
		for _, kid := range p.Kids {
			l, m := modelSums(kid)
			if l > m {
				return endlessly, -1
			}
			least, most = least+l, most+m
		}
		return least, most
	case k == 21 || k == 22:
		return modelSums(p.Kids[0])
	case k == 20:
		if _, m := modelSums(p.Kids[0]); m <= 0 {
			return 0, 0
		}
	}
	return 0, endlessly
}

// modelNull tells whether p may be empty.
func modelNull(p api.Pat) bool {
	switch k := p.Kind; {
	case k == 1:
		return p.Text == ""
	case k == 2:
		return p.N == 0
	case k == 3 || k == 4 || k == 5 || k == 14 || k == 15 || k == 17:
		return false
	case k == 18:
		return !slices.ContainsFunc(p.Kids, func(kid api.Pat) bool { return !modelNull(kid) })
	case k == 19:
		return slices.ContainsFunc(p.Kids, modelNull)
	case k == 21 || k == 22:
		return modelNull(p.Kids[0])
	}
	return true
}

// modelBegins tells whether p may begin with a byte.
func modelBegins(p api.Pat, b byte) bool {
	in := strings.IndexByte(p.Text, b) >= 0
	switch k := p.Kind; {
	case k == 1:
		return strings.HasPrefix(p.Text, string([]byte{b}))
	case k == 2:
		return p.N > 0
	case k == 3 || k == 5:
		return in
	case k == 4 || k == 6:
		return !in
	case k == 10 || k == 11 || k >= 15 && k <= 17 || k == 23:
		return false
	case k == 14:
		return b != ')'
	case k == 18:
		for i, kid := range p.Kids {
			if modelBegins(kid, b) && !slices.ContainsFunc(p.Kids[:i], func(ahead api.Pat) bool { return !modelNull(ahead) }) {
				return true
			}
		}
		return false
	case k == 19:
		return slices.ContainsFunc(p.Kids, func(kid api.Pat) bool { return modelBegins(kid, b) })
	case k >= 20 && k <= 22:
		return modelBegins(p.Kids[0], b)
	}
	return true
}
