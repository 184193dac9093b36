package run

import (
	"scanfail/api"
	"scanfail/check"
	"scanfail/numbers"
	"scanfail/pats"
)

// value is what an expression has, unless it fails.
func (r *runner) value(x *api.Expr) (string, bool) {
	kids, ok := r.values(x.Kids)
	if !ok {
		return "", false
	}
	switch x.Kind {
	case api.ExText:
		return x.Text, true
	case api.ExNumber:
		return numbers.Print(x.N), true
	case api.ExName, api.ExItem, api.ExIndirect:
		p, ok := placeOf(x, kids)
		if !ok {
			return "", false
		}
		return r.read(p)
	case api.ExCall:
		if check.Builtin(x.Name) < 0 {
			return r.call(&r.program[r.functions[x.Name]], kids)
		}
		return makes(x.Name, kids)
	case api.ExNeg:
		return two(api.ExSub, "0", kids[0])
	}
	return two(x.Kind, kids[0], kids[1])
}

// values are what expressions have, unless one fails: those behind it are not worked out then.
func (r *runner) values(l []api.Expr) ([]string, bool) {
	out := make([]string, len(l))
	for i := range l {
		text, ok := r.value(&l[i])
		if !ok {
			return nil, false
		}
		out[i] = text
	}
	return out, true
}

// place is the one that a target stands for, unless that fails.
func (r *runner) place(target *api.Expr) (place, bool) {
	kids, ok := r.values(target.Kids)
	if !ok {
		return place{}, false
	}
	return placeOf(target, kids)
}

// placeOf is the place of ExName, ExItem or ExIndirect whose kids have these texts.
func placeOf(x *api.Expr, kids []string) (place, bool) {
	switch x.Kind {
	case api.ExItem:
		return itemOf(x.Name, kids[0]), true
	case api.ExIndirect:
		return variable(kids[0]), pats.Named(kids[0])
	}
	return variable(x.Name), true
}

// two is what the kind of an expression makes of its two kids' texts.
func two(kind int, a, b string) (string, bool) {
	if kind == api.ExCat {
		if len(a)+len(b) > api.MaxText {
			return "", false
		}
		return a + b, true
	}
	l := arguments{texts: []string{a, b}}
	return l.right(l.reckon(kind))
}
