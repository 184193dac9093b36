package fold_test

import (
	"slices"
	"strconv"

	"scanfail/api"
	"scanfail/run"
	"scanfail/tune"
)

// modelProgram takes one small step after the other, and looks through the whole program for each label anew.
func modelProgram(l []api.Statement) []api.Statement {
	out := slices.Clone(l)
	for i := range out {
		s := &out[i]
		for _, label := range []*string{&s.Always, &s.Yes, &s.Noes} {
			*label = modelEnd(l, *label)
		}
		if k := s.Kind; k >= api.StEval && k <= api.StReplace {
			s.Value = modelExpr(s.Value)
		}
		if k := s.Kind; k == api.StAssign || k == api.StReplace {
			s.Target = modelExpr(s.Target)
		}
		if k := s.Kind; k >= api.StMatch && k <= api.StRule {
			s.Pat = modelPat(s.Pat)
		}
	}
	return out
}

// modelExpr replaces one node at a time.
func modelExpr(x api.Expr) api.Expr {
	for {
		y, some := modelStep(x)
		if !some {
			return y
		}
		x = y
	}
}

// modelStep replaces a node, if there is one that can be; those nearest to the top are tried first.
func modelStep(x api.Expr) (api.Expr, bool) {
	if isKnown(x) {
		if s, ok := modelValue(x); ok {
			return modelConstant(s), true
		}
	}
	for i, kid := range x.Kids {
		if y, some := modelStep(kid); some {
			x.Kids = slices.Clone(x.Kids)
			x.Kids[i] = y
			return x, true
		}
	}
	return x, false
}

// isKnown tells whether a node is one of those that may become what it has: it has kids, all of which are ExText or ExNumber.
func isKnown(x api.Expr) bool {
	for _, kid := range x.Kids {
		if kid.Kind != api.ExText && kid.Kind != api.ExNumber {
			return false
		}
	}
	own := map[string]int{"SIZE": 1, "TRIM": 1, "REVERSE": 1, "ROOT": 1, "INTEGER": 1, "DUPL": 2, "ROTATE": 2, "COUNT": 2, "EQ": 2, "NE": 2, "LT": 2, "LE": 2, "GT": 2, "GE": 2, "IDENT": 2, "DIFFER": 2, "LGT": 2, "REMDR": 2, "POWER": 2, "GCD": 2, "BASE": 2, "UNBASE": 2, "REPLACE": 3, "SUBSTR": 3, "LPAD": 3, "RPAD": 3}
	return len(x.Kids) > 0 && (x.Kind >= api.ExNeg || x.Kind == api.ExCall && own[x.Name] == len(x.Kids))
}

// modelValue is what an expression has in a run, which tells whether it fails by where it goes on.
func modelValue(x api.Expr) (string, bool) {
	ran, comings, _ := run.Run([]api.Statement{{Kind: api.StAssign, Target: name("X"), Value: x, Noes: "END"}, {Kind: api.StEmpty}}, nil, 9)
	if comings[1] == 0 {
		return "", false
	}
	if len(ran.Vars) == 0 {
		return "", true
	}
	return ran.Vars[0].Text, true
}

// modelConstant is ExNumber for digits, a nought ahead of none.
func modelConstant(s string) api.Expr {
	digits := s != "" && (s == "0" || s[0] != '0')
	for _, b := range []byte(s) {
		digits = digits && '0' <= b && b <= '9'
	}
	if n, err := strconv.ParseInt(s, 10, 64); digits && err == nil {
		return number(n)
	}
	return text(s)
}

// modelPat stays, if a name that it calls would be gone.
func modelPat(p api.Pat) api.Pat {
	q, _ := tune.Simplify(p)
	calls := modelCalls(q)
	for name := range modelCalls(p) {
		if calls[name] == 0 {
			return p
		}
	}
	return q
}

// modelCalls is how often a pattern calls which name.
func modelCalls(p api.Pat) map[string]int {
	out := map[string]int{}
	if p.Kind == api.PatCall {
		out[p.Name]++
	}
	for _, kid := range p.Kids {
		for name, n := range modelCalls(kid) {
			out[name] += n
		}
	}
	return out
}

// modelEnd goes on until it comes to a label for the second time.
func modelEnd(l []api.Statement, label string) string {
	var seen []string
	last := label
	for last != "" {
		if slices.Contains(seen, last) {
			return label
		}
		seen = append(seen, last)
		at := slices.IndexFunc(l, func(s api.Statement) bool { return s.Label == last })
		if at < 0 || l[at].Kind != api.StEmpty || l[at].Always == "" {
			break
		}
		last = l[at].Always
	}
	return last
}
