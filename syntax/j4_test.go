package syntax_test

import (
	"fmt"
	"slices"
	"testing"

	"scanfail/api"
	"scanfail/syntax"
)

// noNames are texts that are no names.
var noNames = []string{"", "a", "1", "1A", "A_", "A B", " A", "A ", "a1", "\x00", "A\n", "É", longest + "X", "ABCDEFGHIJKLMNOPQ", many("A", 70000)}

// kidsOf is how many kids expressions of a kind have.
func kidsOf(kind int) (least, most int) {
	switch kind {
	case api.ExText, api.ExNumber, api.ExName:
		return 0, 0
	case api.ExItem, api.ExIndirect, api.ExNeg:
		return 1, 1
	case api.ExCall:
		return 0, 8
	}
	return 2, 2
}

// of is an expression of a kind with so many kids, all else right.
func of(kind, kids int) api.Expr {
	x := api.Expr{Kind: kind, Text: "a", N: 1, Name: "A"}
	for i := range kids {
		x.Kids = append(x.Kids, number(int64(i)))
	}
	return x
}

func TestJ4Kinds(t *testing.T) {
	for kind := api.ExText; kind <= api.ExRem; kind++ {
		least, most := kidsOf(kind)
		for n := range 12 {
			want := api.OK
			if n < least || n > most {
				want = api.ErrMany
			}
			wantExpr(t, fmt.Sprintf("kind %d with %d kids", kind, n), of(kind, n), want)
		}
	}
	for _, kind := range []int{0, -1, 14, 15, 100, 1 << 40, -1 << 63, 1<<63 - 1} {
		for n := range 4 {
			wantExpr(t, fmt.Sprintf("kind %d with %d kids", kind, n), of(kind, n), api.ErrKind)
		}
	}
	wantExpr(t, "noughts", api.Expr{}, api.ErrKind)
}

func TestJ4Texts(t *testing.T) {
	long := many("a", api.MaxText+1)
	if got := syntax.Expr(text(long[1:])); got != api.OK {
		t.Errorf("Expr of a text of MaxText bytes: error %d", got)
	}
	wantExpr(t, "a text that is too long", text(long), api.ErrMuch)
	wantExpr(t, "a text that is too long, below", neg(text(long)), api.ErrMuch)
	for kind := api.ExNumber; kind <= api.ExRem; kind++ { // others do not name it
		least, _ := kidsOf(kind)
		x := of(kind, least)
		x.Text = long
		wantExpr(t, fmt.Sprintf("kind %d with a long text", kind), x, api.OK)
	}
	for _, s := range []string{"", "a", "\n", "\x00", "'"} {
		wantExpr(t, "a text", text(s), api.OK)
	}
}

func TestJ4Numbers(t *testing.T) {
	for _, n := range []int64{0, 1, 1<<63 - 1} {
		wantExpr(t, "a number", number(n), api.OK)
	}
	for _, n := range []int64{-1, -2, -1 << 63} {
		wantExpr(t, "a number below 0", number(n), api.ErrRange)
		for kind := api.ExText; kind <= api.ExRem; kind++ {
			if kind != api.ExNumber {
				least, _ := kidsOf(kind)
				x := of(kind, least)
				x.N = n
				wantExpr(t, fmt.Sprintf("kind %d with a number below 0", kind), x, api.OK)
			}
		}
	}
}

func TestJ4Names(t *testing.T) {
	for kind := api.ExText; kind <= api.ExRem; kind++ {
		least, _ := kidsOf(kind)
		for _, s := range noNames {
			x, want := of(kind, least), api.OK
			x.Name = s
			if kind == api.ExName || kind == api.ExItem || kind == api.ExCall {
				want = api.ErrName
			}
			wantExpr(t, fmt.Sprintf("kind %d with the name %q", kind, brief(s)), x, want)
		}
		x := of(kind, least)
		x.Name = longest
		wantExpr(t, fmt.Sprintf("kind %d with the longest name", kind), x, api.OK)
	}
}

// Of one node each error ahead of the next one; of two nodes that of the upper one, or of the first one.
func TestJ4ExprOrder(t *testing.T) {
	long := many("a", api.MaxText+1)
	wrong := []struct {
		x   api.Expr
		err api.Errno
	}{
		{api.Expr{Kind: 14, Text: long, N: -1}, api.ErrKind},
		{api.Expr{Kind: api.ExText, Text: long, N: -1}, api.ErrMuch},
		{api.Expr{Kind: api.ExNumber, N: -1}, api.ErrRange},
		{api.Expr{Kind: api.ExName}, api.ErrName},
		{api.Expr{Kind: api.ExCall, Name: "a"}, api.ErrName},
		{api.Expr{Kind: api.ExItem, Name: ""}, api.ErrName}, // and no kid
		{api.Expr{Kind: api.ExItem, Name: "T"}, api.ErrMany},
		{api.Expr{Kind: api.ExAdd}, api.ErrMany},
	}
	for _, a := range wrong {
		for _, b := range wrong {
			wantExpr(t, "two that are wrong", two(api.ExAdd, a.x, b.x), a.err)
			wantExpr(t, "two below", call("F", number(1), neg(a.x), b.x), a.err)
			wantExpr(t, "the first one deeper", two(api.ExAdd, neg(neg(a.x)), b.x), a.err)
			up := a.x
			up.Kids = []api.Expr{b.x, b.x, b.x}
			if a.err == api.ErrMany { // then it has too many
				wantExpr(t, "one above", up, api.ErrMany)
			} else {
				wantExpr(t, "one above", up, a.err)
			}
		}
		wantExpr(t, "the last of many", call("F", number(1), name("X"), text(""), a.x), a.err)
	}
	for _, kids := range [][]api.Expr{{number(-1)}, {name("")}, {{}}} {
		wantExpr(t, "text with kids", api.Expr{Kind: api.ExText, Kids: kids}, api.ErrMany)
		wantExpr(t, "nameless call", api.Expr{Kind: api.ExCall, Kids: kids}, api.ErrName)
	}
	wantExpr(t, "too many, one wrong", call("F", slices.Repeat([]api.Expr{number(-1)}, 9)...), api.ErrMany)
	wantExpr(t, "not too many, one wrong", call("F", slices.Repeat([]api.Expr{number(-1)}, 8)...), api.ErrRange)
}

// bushy has just so many nodes, in calls of few kids each.
func bushy(nodes int) api.Expr {
	x := call("F")
	left := nodes - 1
	for i := range api.MaxArgs {
		part := (left + i) / api.MaxArgs // in all: left
		if part > 0 {
			x.Kids = append(x.Kids, bushy(part))
		}
	}
	return x
}

func count(x api.Expr) int {
	n := 1
	for _, kid := range x.Kids {
		n += count(kid)
	}
	return n
}

func TestJ4Much(t *testing.T) {
	for _, n := range []int{1, 2, 9, 10, 100, api.MaxNodes - 1, api.MaxNodes} {
		if count(bushy(n)) != n {
			t.Fatalf("%d nodes, not %d", count(bushy(n)), n)
		}
		wantExpr(t, fmt.Sprintf("%d nodes", n), bushy(n), api.OK)
	}
	for _, n := range []int{api.MaxNodes + 1, api.MaxNodes + 2, 3 * api.MaxNodes} {
		wantExpr(t, fmt.Sprintf("%d nodes", n), bushy(n), api.ErrMuch)
	}
	for kind := api.ExItem; kind <= api.ExRem; kind++ {
		_, deep := nested(kind, api.MaxDepth)
		_, deeper := nested(kind, api.MaxDepth+1)
		wantExpr(t, "MaxDepth", deep, api.OK)
		wantExpr(t, "MaxDepth + 1", deeper, api.ErrMuch)
		wantExpr(t, "MaxDepth and one", neg(deep), api.ErrMuch)
	}
	// Too much is told ahead of all else, wherever that is wrong.
	many := api.Expr{Kind: 14, Kids: slices.Repeat([]api.Expr{number(1)}, api.MaxNodes-1)}
	wantExpr(t, "MaxNodes of no kind", many, api.ErrKind)
	many.Kids = append(many.Kids, number(1))
	wantExpr(t, "more than MaxNodes of no kind", many, api.ErrMuch)
	many.Kind = api.ExText
	wantExpr(t, "a text with too many kids", many, api.ErrMuch)
	deep := api.Expr{Kind: -1}
	for range api.MaxDepth - 1 {
		deep = api.Expr{Kind: -1, Kids: []api.Expr{deep}}
	}
	wantExpr(t, "MaxDepth of no kind", deep, api.ErrKind)
	wantExpr(t, "more than MaxDepth of no kind", api.Expr{Kind: -1, Kids: []api.Expr{deep}}, api.ErrMuch)
	wantExpr(t, "too deep on the right", two(api.ExAdd, api.Expr{}, neg(deep)), api.ErrMuch)
}

// endless is an expression whose list of kids holds itself.
func endless(kind, kids int) api.Expr {
	l := make([]api.Expr, kids)
	for i := range l {
		l[i] = api.Expr{Kind: kind, Name: "A", Kids: l}
	}
	return l[0]
}

func TestJ4Endless(t *testing.T) {
	for kind := 0; kind <= 14; kind++ {
		for _, kids := range []int{1, 2, 8, 9, 5000} {
			wantExpr(t, "what has no end", endless(kind, kids), api.ErrMuch)
			wantExpr(t, "what has no end, below", neg(endless(kind, kids)), api.ErrMuch)
		}
	}
}

// sound are statements of each kind with nothing wrong.
func sound() []api.Statement {
	var out []api.Statement
	for _, d := range deeds {
		out = append(out, d.s)
	}
	return out
}

func TestJ4Sound(t *testing.T) {
	for _, s := range sound() {
		for _, label := range []string{"", "L", longest} {
			for _, way := range ways {
				s.Label, s.Always, s.Yes, s.Noes = label, way.always, way.yes, way.noes
				wantWrong(t, tell(s), s, api.OK)
			}
		}
	}
}

// Labels and where it goes on, whatever the kind.
func TestJ4Labels(t *testing.T) {
	for _, s := range append(sound(), api.Statement{}, api.Statement{Kind: 8}, eval(api.Expr{}), rule("", api.Pat{})) {
		for _, bad := range noNames[1:] { // nothing is right
			for _, good := range []string{"", "L"} {
				for i := range 4 {
					l := [4]string{good, good, good, good}
					l[i] = bad
					s.Label, s.Always, s.Yes, s.Noes = l[0], l[1], l[2], l[3]
					wantWrong(t, fmt.Sprintf("kind %d with %q", s.Kind, brief(bad)), s, api.ErrName)
				}
			}
		}
		for _, label := range []string{"", "L"} {
			s.Label = label
			s.Always, s.Yes, s.Noes = "A", "B", ""
			wantWrong(t, "Always and Yes", s, api.ErrFit)
			s.Always, s.Yes, s.Noes = "A", "", "C"
			wantWrong(t, "Always and Noes", s, api.ErrFit)
			s.Always, s.Yes, s.Noes = "A", "B", "C"
			wantWrong(t, "all", s, api.ErrFit)
			s.Always, s.Yes, s.Noes = "A", "A", "A"
			wantWrong(t, "all the same", s, api.ErrFit)
		}
	}
}

func TestJ4StatementKinds(t *testing.T) {
	for _, kind := range []int{0, -1, 8, 9, 1 << 40, -1 << 63, 1<<63 - 1} {
		for _, s := range sound() {
			s.Kind = kind
			wantWrong(t, fmt.Sprintf("kind %d", kind), s, api.ErrKind)
			s.Value, s.Target, s.Pat, s.Name = api.Expr{Kind: api.ExName}, name(""), api.Pat{Kind: api.PatAny}, ""
			wantWrong(t, fmt.Sprintf("kind %d", kind), s, api.ErrKind)
		}
	}
	wantWrong(t, "noughts", api.Statement{}, api.ErrKind)
}

// spoilt is a statement in which nothing is right that its kind does not name.
func spoilt(s api.Statement) api.Statement {
	bad := api.Statement{
		Label: s.Label, Always: s.Always, Yes: s.Yes, Noes: s.Noes, Kind: s.Kind,
		Target: endless(api.ExAdd, 2), Value: api.Expr{Kind: 99}, Pat: api.Pat{Kind: api.PatAny},
		Name: "no name", Entry: "\n", Params: slices.Repeat([]string{""}, 9), Locals: []string{"a"},
	}
	switch s.Kind {
	case api.StEval:
		bad.Value = s.Value
	case api.StAssign:
		bad.Target, bad.Value = s.Target, s.Value
	case api.StMatch:
		bad.Value, bad.Pat = s.Value, s.Pat
	case api.StReplace:
		bad.Target, bad.Pat, bad.Value = s.Target, s.Pat, s.Value
	case api.StRule:
		bad.Name, bad.Pat = s.Name, s.Pat
	case api.StDefine:
		bad.Name, bad.Entry, bad.Params, bad.Locals = s.Name, s.Entry, s.Params, s.Locals
	}
	return bad
}

// What a kind does not name is not looked at; nor is it written.
func TestJ4NotLookedAt(t *testing.T) {
	for _, s := range sound() {
		wantWrong(t, "what is spoilt of "+tell(s), spoilt(s), api.OK)
		want, _ := syntax.Print(s)
		if got, err := syntax.Print(spoilt(s)); err != api.OK || got != want {
			t.Errorf("Print of what is spoilt: %q, error %d; want %q", brief(got), err, want)
		}
	}
}

// wrongExprs and wrongPats are each error of an expression and of a pattern.
func wrongExprs() map[api.Errno]api.Expr {
	return map[api.Errno]api.Expr{
		api.ErrKind:  {Kind: 14},
		api.ErrMuch:  endless(api.ExAdd, 2),
		api.ErrRange: neg(number(-1)),
		api.ErrName:  item("t", number(1)),
		api.ErrMany:  {Kind: api.ExIndirect},
	}
}

func wrongPats() map[api.Errno]api.Pat {
	return map[api.Errno]api.Pat{
		api.ErrKind:  {Kind: 25},
		api.ErrMuch:  lit(many("a", api.MaxText+1)),
		api.ErrRange: {Kind: api.PatLen, N: -1},
		api.ErrName:  {Kind: api.PatCall},
		api.ErrFit:   {Kind: api.PatAny},
		api.ErrMany:  {Kind: api.PatCat},
	}
}

// Each error of each part, and the parts in their order.
func TestJ4Parts(t *testing.T) {
	x, p := name("X"), lit("a")
	for err, bad := range wrongExprs() {
		wantWrong(t, "StEval", eval(bad), err)
		wantWrong(t, "StMatch", match(bad, p), err)
		wantWrong(t, "StAssign's target", assign(bad, x), err)
		wantWrong(t, "StAssign's value", assign(x, bad), err)
		wantWrong(t, "StReplace's target", replace(bad, p, x), err)
		wantWrong(t, "StReplace's value", replace(x, p, bad), err)
		for _, other := range wrongExprs() {
			wantWrong(t, "StAssign's both", assign(bad, other), err)
			wantWrong(t, "StReplace's both", replace(bad, p, other), err)
			for _, pat := range wrongPats() {
				wantWrong(t, "StReplace's all", replace(bad, pat, other), err)
				wantWrong(t, "StMatch's both", match(bad, pat), err)
			}
		}
		wantWrong(t, "no target and no value", assign(number(1), bad), api.ErrFit)
		wantWrong(t, "no target and no value", replace(call("F"), p, bad), api.ErrFit)
	}
	for err, bad := range wrongPats() {
		wantWrong(t, "StMatch", match(x, bad), err)
		wantWrong(t, "StReplace's pattern", replace(x, bad, x), err)
		wantWrong(t, "StRule", rule("P", bad), err)
		wantWrong(t, "StRule's both", rule("p", bad), api.ErrName)
		wantWrong(t, "no target and no pattern", replace(number(1), bad, x), api.ErrFit)
		for _, other := range wrongExprs() {
			wantWrong(t, "StReplace's pattern and value", replace(x, bad, other), err)
		}
	}
	for _, s := range noNames {
		wantWrong(t, "StRule", rule(s, p), api.ErrName)
	}
}

func TestJ4Targets(t *testing.T) {
	for kind := api.ExText; kind <= api.ExRem; kind++ {
		least, _ := kidsOf(kind)
		want := api.ErrFit
		if kind == api.ExName || kind == api.ExItem || kind == api.ExIndirect {
			want = api.OK
		}
		wantWrong(t, fmt.Sprintf("a target of kind %d", kind), assign(of(kind, least), number(1)), want)
		wantWrong(t, fmt.Sprintf("a target of kind %d", kind), replace(of(kind, least), arb(), number(1)), want)
		wantWrong(t, fmt.Sprintf("kind %d, matched", kind), match(of(kind, least), arb()), api.OK)
	}
	wantWrong(t, "a target that is wrong, too", assign(number(-1), number(1)), api.ErrRange)
	wantWrong(t, "no target", assign(api.Expr{}, number(1)), api.ErrKind)
	wantWrong(t, "a target's kid is none", assign(item("T", number(1)), number(1)), api.OK)
}

func TestJ4Define(t *testing.T) {
	for a := range 11 {
		for b := range 11 {
			want := api.OK
			if a > api.MaxArgs || b > api.MaxArgs {
				want = api.ErrMany
			}
			s := define("F", letters(a), letters(b), "L")
			wantWrong(t, fmt.Sprintf("%d and %d names", a, b), s, want)
			for _, bad := range noNames {
				s := define(bad, letters(a), letters(b), "L")
				wantWrong(t, "Name", s, api.ErrName)
				s = define("F", letters(a), letters(b), bad)
				wantWrong(t, "Entry", s, api.ErrName)
				for _, i := range []int{0, a / 2, a - 1} {
					if a > 0 {
						s = define("F", letters(a), letters(b), "L")
						s.Params[i] = bad
						wantWrong(t, "a parameter", s, api.ErrName)
					}
				}
				for _, i := range []int{0, b / 2, b - 1} {
					if b > 0 {
						s = define("F", letters(a), letters(b), "L")
						s.Locals[i] = bad
						wantWrong(t, "a local", s, api.ErrName)
					}
				}
			}
		}
	}
	wantWrong(t, "the same names", define("F", []string{"F", "F"}, []string{"F"}, "F"), api.OK) // that is asked by chapter 11
	wantWrong(t, "100000 names", define("F", slices.Repeat([]string{"A"}, 100000), nil, "L"), api.ErrMany)
	wantWrong(t, "100000 names, and no entry", define("F", nil, slices.Repeat([]string{"A"}, 100000), ""), api.ErrName)
}

// What is read has nothing wrong.
func TestJ4WhatIsRead(t *testing.T) {
	for _, label := range []string{"", "L"} {
		for _, deed := range deeds {
			for _, way := range ways {
				s, _, fault := syntax.Line(label + " " + deed.text + " " + way.text)
				if fault.Err != api.OK {
					t.Errorf("Line: fault %v", fault)
				}
				wantWrong(t, "what is read", s, api.OK)
			}
		}
	}
}
