package fold

import (
	"slices"
	"strings"

	"scanfail/api"
	"scanfail/check"
	"scanfail/numbers"
	"scanfail/world"
)

// folded is x in new memory, whatever hangs on no run in it worked out.
func folded(x api.Expr) api.Expr {
	x.Text, x.Name = strings.Clone(x.Text), strings.Clone(x.Name)
	x.Kids = slices.Clone(x.Kids)
	for i := range x.Kids {
		x.Kids[i] = folded(x.Kids[i])
	}
	if text, ok := workedOut(&x); ok {
		return constant(text)
	}
	return x
}

// workedOut is what an expression has in each run, if that is known: if it is made of its kids alone, all of which are known, and does not fail.
func workedOut(x *api.Expr) (string, bool) {
	if !isMadeOfKids(x) {
		return "", false
	}
	kids := make([]string, len(x.Kids))
	for i, kid := range x.Kids {
		switch kid.Kind {
		case api.ExText:
			kids[i] = kid.Text
		case api.ExNumber:
			kids[i] = numbers.Print(kid.N)
		default:
			return "", false
		}
	}
	return world.Worked(x, kids)
}

// isMadeOfKids tells whether what an expression has hangs on its kids alone. Variables, items and the program's own functions have now this, now that.
func isMadeOfKids(x *api.Expr) bool {
	switch x.Kind {
	case api.ExNeg, api.ExCat, api.ExAdd, api.ExSub, api.ExMul, api.ExDiv, api.ExRem:
		return true
	case api.ExCall:
		return check.Builtin(x.Name) >= 0
	}
	return false
}

// constant is the expression that has a text.
func constant(text string) api.Expr {
	n, err := numbers.Read(text)
	if err == api.OK && n >= 0 && numbers.Print(n) == text {
		return api.Expr{Kind: api.ExNumber, N: n}
	}
	return api.Expr{Kind: api.ExText, Text: text}
}
