package run

import (
	"scanfail/api"
	"scanfail/check"
	"scanfail/numbers"
	"scanfail/world"
)

// value is what an expression has, unless it fails.
func (r *runner) value(x *api.Expr) (string, bool) {
	kids, ok := r.values(x.Kids)
	if !ok {
		return "", false
	}
	switch x.Kind {
	case api.ExText:
		return x.Text, true
	case api.ExNumber:
		return numbers.Print(x.N), true
	case api.ExName, api.ExItem, api.ExIndirect:
		p, ok := placeOf(x, kids)
		if !ok {
			return "", false
		}
		return r.Read(p)
	case api.ExCall:
		if check.Builtin(x.Name) < 0 {
			return r.call(x.Name, kids)
		}
	}
	return world.Worked(x, kids)
}

// values are what expressions have, unless one fails: those behind it are not worked out then.
func (r *runner) values(l []api.Expr) ([]string, bool) {
	out := make([]string, len(l))
	for i := range l {
		text, ok := r.value(&l[i])
		if !ok {
			return nil, false
		}
		out[i] = text
	}
	return out, true
}

// place is the one that a target stands for, unless that fails.
func (r *runner) place(target *api.Expr) (world.Place, bool) {
	kids, ok := r.values(target.Kids)
	if !ok {
		return world.Place{}, false
	}
	return placeOf(target, kids)
}

// placeOf is the place of ExName, ExItem or ExIndirect whose kids have these texts.
func placeOf(x *api.Expr, kids []string) (world.Place, bool) {
	switch x.Kind {
	case api.ExItem:
		return world.ItemOf(x.Name, kids[0]), true
	case api.ExIndirect:
		return world.Named(kids[0])
	}
	return world.Variable(x.Name), true
}
