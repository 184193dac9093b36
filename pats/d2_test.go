package pats_test

import (
	"fmt"
	"math"
	"slices"
	"strings"
	"testing"

	"scanfail/api"
)

func TestD2NothingWrong(t *testing.T) {
	for kind := 1; kind <= 24; kind++ {
		wantWrong(t, fmt.Sprintf("kind %d", kind), good(kind), api.OK)
	}
	for _, p := range []api.Pat{
		lit(""),
		lit(full),
		cat(lit(""), lit("")),
		cat(lit("a"), lit("b"), lit("c")),
		alt(cat(lit("a"), bare(api.PatFail)), arbno(alt(lit("a"), call("P")))),
		cond(imm(cond(lit("a"), "X"), "X"), "X"),
		wide(api.MaxNodes),
		deep(api.MaxDepth),
	} {
		wantWrong(t, tell(p), p, api.OK)
	}
}

func TestD2Kind(t *testing.T) {
	for _, kind := range []int{math.MinInt, -1, 0, 25, 26, 99, math.MaxInt} {
		wantWrong(t, fmt.Sprintf("kind %d", kind), bare(kind), api.ErrKind)
		wantWrong(t, fmt.Sprintf("kind %d within", kind), cat(lit("a"), bare(kind)), api.ErrKind)
		p := api.Pat{Kind: kind, Text: over, N: -1, Name: "x", Kids: []api.Pat{text(api.PatAny, "")}}
		wantWrong(t, fmt.Sprintf("kind %d with everything else wrong", kind), p, api.ErrKind)
	}
}

func TestD2Text(t *testing.T) {
	for kind := 1; kind <= 24; kind++ {
		for _, s := range []string{"", "a", "'", "\x00", full, over} {
			p := good(kind)
			p.Text = s
			want := api.OK
			switch {
			case !in(texted, kind):
			case s == over:
				want = api.ErrMuch
			case s == "" && kind != api.PatLit:
				want = api.ErrFit
			}
			wantWrong(t, fmt.Sprintf("kind %d with a text of %d bytes", kind, len(s)), p, want)
		}
	}
}

func TestD2Number(t *testing.T) {
	for kind := 1; kind <= 24; kind++ {
		for _, n := range []int{math.MinInt, -api.MaxText, -1, 0, 1, api.MaxText - 1, api.MaxText, api.MaxText + 1, math.MaxInt} {
			p := good(kind)
			p.N = n
			want := api.OK
			if in(numbered, kind) && (n < 0 || n > api.MaxText) {
				want = api.ErrRange
			}
			wantWrong(t, fmt.Sprintf("kind %d with %d", kind, n), p, want)
		}
	}
}

func TestD2Name(t *testing.T) {
	names := map[string]bool{"": false, "A": true, "Z9": true, "9Z": false, "x": false, "X Y": false, "'X'": false, strings.Repeat("N", api.MaxName): true, strings.Repeat("N", api.MaxName+1): false, over: false}
	for kind := 1; kind <= 24; kind++ {
		for name, is := range names {
			p := good(kind)
			p.Name = name
			want := api.OK
			if in(naming, kind) && !is {
				want = api.ErrName
			}
			wantWrong(t, fmt.Sprintf("kind %d with the name %q", kind, brief(name)), p, want)
		}
	}
}

func TestD2Many(t *testing.T) {
	for kind := 1; kind <= 24; kind++ {
		least, most := kidsOf(kind)
		for n := range 5 {
			p := good(kind)
			p.Kids = nil
			for range n {
				p.Kids = append(p.Kids, bare(api.PatRem))
			}
			want := api.OK
			if n < least || n > most {
				want = api.ErrMany
			}
			wantWrong(t, fmt.Sprintf("kind %d with %d kids", kind, n), p, want)
		}
	}
}

// nil and a list without entries are the same (Z3).
func TestD2NoKids(t *testing.T) {
	for kind := 1; kind <= 24; kind++ {
		p := good(kind)
		want := api.OK
		if len(p.Kids) > 0 {
			want = api.ErrMany
		}
		p.Kids = nil
		wantWrong(t, fmt.Sprintf("kind %d with nil", kind), p, want)
		p.Kids = []api.Pat{}
		wantWrong(t, fmt.Sprintf("kind %d with no kids", kind), p, want)
	}
}

// Of one node: its kind, its text, number or name, then how many kids it has; only then what they are made of.
func TestD2WhatIsToldFirst(t *testing.T) {
	wrong := []api.Pat{bare(0)}
	for _, kind := range texted {
		p := api.Pat{Kind: kind, Text: over, N: -1, Name: "x", Kids: wrong}
		wantWrong(t, fmt.Sprintf("kind %d, too long", kind), p, api.ErrMuch)
		p.Text = ""
		want := api.ErrFit
		if kind == api.PatLit {
			want = api.ErrMany
		}
		wantWrong(t, fmt.Sprintf("kind %d, empty", kind), p, want)
		p.Text = "a"
		wantWrong(t, fmt.Sprintf("kind %d, with a kid", kind), p, api.ErrMany)
	}
	for _, kind := range numbered {
		p := api.Pat{Kind: kind, Text: over, N: -1, Name: "x", Kids: wrong}
		wantWrong(t, fmt.Sprintf("kind %d, below 0", kind), p, api.ErrRange)
		p.N = 0
		wantWrong(t, fmt.Sprintf("kind %d, with a kid", kind), p, api.ErrMany)
	}
	for _, kind := range naming {
		p := api.Pat{Kind: kind, Text: over, N: -1, Name: "x", Kids: []api.Pat{wrong[0], wrong[0]}}
		wantWrong(t, fmt.Sprintf("kind %d, without a name", kind), p, api.ErrName)
		p.Name = "X"
		wantWrong(t, fmt.Sprintf("kind %d, with two kids", kind), p, api.ErrMany)
	}
	for _, kind := range append(slices.Clone(plain), api.PatCat, api.PatAlt) {
		p := api.Pat{Kind: kind, Text: over, N: -1, Name: "x", Kids: wrong}
		wantWrong(t, fmt.Sprintf("kind %d, with one kid", kind), p, api.ErrMany)
	}
	p := api.Pat{Kind: api.PatArbno, Text: over, N: -1, Name: "x", Kids: wrong}
	wantWrong(t, "PatArbno of what is wrong", p, api.ErrKind)
}

// A node is told ahead of its kids, the first kid and all below it ahead of the second one; what Size says ahead of all.
func TestD2WhichNodeIsToldFirst(t *testing.T) {
	kind, fit, rang, name, many := bare(0), text(api.PatAny, ""), number(api.PatLen, -1), cursor("x"), cat()
	for _, c := range []struct {
		p    api.Pat
		want api.Errno
	}{
		{cat(fit, rang), api.ErrFit},
		{cat(rang, fit), api.ErrRange},
		{cat(lit("a"), name, kind), api.ErrName},
		{cat(arbno(arbno(rang)), kind), api.ErrRange},
		{cat(kind, arbno(arbno(rang))), api.ErrKind},
		{cat(cat(lit("a"), rang), fit), api.ErrRange},
		{cond(kind, "x"), api.ErrName},
		{cond(kind, "X"), api.ErrKind},
		{cond(cond(kind, "x"), "X"), api.ErrName},
		{alt(fit), api.ErrMany},
		{alt(many, kind), api.ErrMany},
		{alt(lit("a"), alt(lit("a"), kind), many), api.ErrKind},
		{alt(lit(over), kind), api.ErrMuch},
		{cat(cat(fit), kind), api.ErrMany},
		{cat(kind, deep(api.MaxDepth)), api.ErrMuch},
		{api.Pat{Kids: wide(api.MaxNodes).Kids}, api.ErrKind},
		{api.Pat{Kids: wide(api.MaxNodes + 1).Kids}, api.ErrMuch},
		{api.Pat{Kids: []api.Pat{deep(api.MaxDepth)}}, api.ErrMuch},
		{api.Pat{Kids: []api.Pat{deep(api.MaxDepth - 1)}}, api.ErrKind},
		{endless(0, 1), api.ErrMuch},
	} {
		wantWrong(t, fmt.Sprintf("kind %d with %d kids", c.p.Kind, len(c.p.Kids)), c.p, c.want)
	}
}

func TestD2Names(t *testing.T) {
	for _, c := range []struct {
		p             api.Pat
		given, called []string
	}{
		{lit("X"), nil, nil},
		{cond(lit("a"), "X"), []string{"X"}, nil},
		{imm(lit("a"), "X"), []string{"X"}, nil},
		{cursor("X"), []string{"X"}, nil},
		{call("X"), nil, []string{"X"}},
		{cat(call("P"), cursor("P")), []string{"P"}, []string{"P"}}, // one name may be both
		{cat(cursor("B"), cursor("A"), cursor("B"), cursor("A")), []string{"A", "B"}, nil},
		{cat(call("B"), call("A"), call("B"), call("A")), nil, []string{"A", "B"}},
		{cat(cursor("X"), imm(lit(""), "X"), cond(lit(""), "X")), []string{"X"}, nil},
		{cond(imm(arbno(cursor("C")), "B"), "A"), []string{"A", "B", "C"}, nil},
		{cond(cond(cond(call("Z"), "A"), "B"), "A"), []string{"A", "B"}, []string{"Z"}},
		{alt(cursor("AB"), cursor("B"), cursor("A"), cursor("A1"), cursor("AA"), cursor("A0")), []string{"A", "A0", "A1", "AA", "AB", "B"}, nil},
		{alt(call("X10"), call("X9"), call("X"), call("Y1")), nil, []string{"X", "X10", "X9", "Y1"}},
		{api.Pat{Kind: api.PatArb, Name: "X"}, nil, nil}, // it names nothing there
		{cat(api.Pat{Kind: api.PatLit, Name: "X"}, api.Pat{Kind: api.PatLen, Name: "bad"}), nil, nil},
		{api.Pat{Kind: api.PatArbno, Name: "X", Kids: []api.Pat{call("Y")}}, nil, []string{"Y"}},
	} {
		wantNames(t, c.p, c.given, c.called)
	}
}

// Names of patterns of all kinds, held against a list in which each is looked for.
func TestD2NamesOfMixed(t *testing.T) {
	d := dice(3)
	for range 2000 {
		p := mixed(&d, 4)
		var given, called []string
		each(p, func(node api.Pat) {
			switch node.Kind {
			case api.PatCond, api.PatImm, api.PatCursor:
				given = put(given, node.Name)
			case api.PatCall:
				called = put(called, node.Name)
			}
		})
		wantNames(t, p, given, called)
	}
}

func each(p api.Pat, do func(node api.Pat)) {
	do(p)
	for _, kid := range p.Kids {
		each(kid, do)
	}
}

// put puts s at its place in a list that rises, once.
func put(l []string, s string) []string {
	i := 0
	for i < len(l) && l[i] < s {
		i++
	}
	if i < len(l) && l[i] == s {
		return l
	}
	return slices.Insert(l, i, s)
}
