package syntax

import (
	"scanfail/api"
	"scanfail/pats"
)

// Expr is what is wrong with x.
func Expr(x api.Expr) api.Errno {
	if isTooMuch(x) {
		return api.ErrMuch
	}
	return wrongBelow(x)
}

// isTooMuch tells whether x has too many nodes, or is nested too deep.
func isTooMuch(x api.Expr) bool {
	nodes := 0
	return !fits(x, 1, &nodes)
}

// fits counts x, which is so deep, and all below it; it gives up as soon as there is too much, since a list of kids may hold itself.
func fits(x api.Expr, depth int, nodes *int) bool {
	*nodes++
	if *nodes > api.MaxNodes || depth > api.MaxDepth {
		return false
	}
	for _, kid := range x.Kids {
		if !fits(kid, depth+1, nodes) {
			return false
		}
	}
	return true
}

// wrongBelow is what is wrong with a node, or else with those below it; only isTooMuch says whether it has an end.
func wrongBelow(x api.Expr) api.Errno {
	if err := wrongNode(x); err != api.OK {
		return err
	}
	for _, kid := range x.Kids {
		if err := wrongBelow(kid); err != api.OK {
			return err
		}
	}
	return api.OK
}

// wrongNode is what is wrong with a node, whatever its kids are made of.
func wrongNode(x api.Expr) api.Errno {
	if x.Kind < api.ExText || x.Kind > api.ExRem {
		return api.ErrKind
	}
	s := shapes[x.Kind]
	switch {
	case x.Kind == api.ExText && len(x.Text) > api.MaxText:
		return api.ErrMuch
	case x.Kind == api.ExNumber && x.N < 0:
		return api.ErrRange
	case s.named && !pats.Named(x.Name):
		return api.ErrName
	case len(x.Kids) < s.least || len(x.Kids) > s.most:
		return api.ErrMany
	}
	return api.OK
}

// Wrong is what is wrong with s.
func Wrong(s api.Statement) api.Errno {
	for _, label := range []string{s.Label, s.Always, s.Yes, s.Noes} {
		if label != "" && !pats.Named(label) {
			return api.ErrName
		}
	}
	if s.Always != "" && (s.Yes != "" || s.Noes != "") {
		return api.ErrFit
	}
	switch s.Kind {
	case api.StEmpty:
		return api.OK
	case api.StEval:
		return Expr(s.Value)
	case api.StMatch:
		return first(Expr(s.Value), pats.Wrong(s.Pat))
	case api.StAssign:
		return first(wrongTarget(s.Target), Expr(s.Value))
	case api.StReplace:
		return first(wrongTarget(s.Target), pats.Wrong(s.Pat), Expr(s.Value))
	case api.StRule:
		return first(wrongNames(s.Name), pats.Wrong(s.Pat))
	case api.StDefine:
		return wrongDefine(s)
	}
	return api.ErrKind
}

// first is the first error, if there is one.
func first(l ...api.Errno) api.Errno {
	for _, err := range l {
		if err != api.OK {
			return err
		}
	}
	return api.OK
}

func wrongTarget(x api.Expr) api.Errno {
	if err := Expr(x); err != api.OK {
		return err
	}
	if !isPlace(x.Kind) {
		return api.ErrFit
	}
	return api.OK
}

func wrongNames(l ...string) api.Errno {
	for _, name := range l {
		if !pats.Named(name) {
			return api.ErrName
		}
	}
	return api.OK
}

func wrongDefine(s api.Statement) api.Errno {
	err := first(wrongNames(s.Name, s.Entry), wrongNames(s.Params...), wrongNames(s.Locals...))
	if err == api.OK && (len(s.Params) > api.MaxArgs || len(s.Locals) > api.MaxArgs) {
		return api.ErrMany
	}
	return err
}
