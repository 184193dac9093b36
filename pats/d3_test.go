package pats_test

import (
	"strings"
	"testing"

	"scanfail/api"
	"scanfail/pats"
)

func TestD3Quote(t *testing.T) {
	for s, want := range map[string]string{
		"":             "''",
		"a":            "'a'",
		"ab c":         "'ab c'",
		"'":            "''''",
		"''":           "''''''",
		"it's":         "'it''s'",
		"'a'":          "'''a'''",
		"a'":           "'a'''",
		"'a":           "'''a'",
		"\"`":          "'\"`'",
		"\x00\n\xff":   "'\x00\n\xff'",
		`\`:            `'\'`,
		"a''b'c":       "'a''''b''c'",
		over:           "'" + over + "'", // it says nothing of length
		over + "'":     "'" + over + "'''",
		"é'é":          "'é''é'",
		"(LEN(3) | X)": "'(LEN(3) | X)'",
	} {
		if got := pats.Quote(s); got != want {
			t.Errorf("Quote %q: %q; want %q", brief(s), brief(got), brief(want))
		}
	}
}

func TestD3QuoteEachByte(t *testing.T) {
	for b := range 256 {
		s := string([]byte{byte(b)})
		want := "'" + s + s + "'"
		if s == "'" {
			want = "''''''"
		}
		if got := pats.Quote(s + s); got != want {
			t.Errorf("Quote %q: %q; want %q", s+s, got, want)
		}
	}
}

// written is each kind's good pattern in a text.
var written = [...]string{
	api.PatLit:    "'t'",
	api.PatLen:    "LEN(3)",
	api.PatAny:    "ANY('t')",
	api.PatNotAny: "NOTANY('t')",
	api.PatSpan:   "SPAN('t')",
	api.PatBreak:  "BREAK('t')",
	api.PatBreakX: "BREAKX('t')",
	api.PatTab:    "TAB(3)",
	api.PatRTab:   "RTAB(3)",
	api.PatPos:    "POS(3)",
	api.PatRPos:   "RPOS(3)",
	api.PatRem:    "REM",
	api.PatArb:    "ARB",
	api.PatBal:    "BAL",
	api.PatFail:   "FAIL",
	api.PatFence:  "FENCE",
	api.PatAbort:  "ABORT",
	api.PatCat:    "'a' 'b'",
	api.PatAlt:    "'a' | 'b'",
	api.PatArbno:  "ARBNO('a')",
	api.PatCond:   "'a' . V",
	api.PatImm:    "'a' $ V",
	api.PatCursor: "@V",
	api.PatCall:   "*V",
}

// Each kind alone, and each as a kid of each kind that has kids, first and last: which ones stand in brackets.
func TestD3PrintEachKind(t *testing.T) {
	for kind := 1; kind <= 24; kind++ {
		p, s := good(kind), written[kind]
		wantPrint(t, p, s)
		wantPrint(t, arbno(p), "ARBNO("+s+")")
		b := s
		if kind == api.PatAlt {
			b = "(" + s + ")"
		}
		wantPrint(t, alt(p, lit("c")), b+" | 'c'")
		wantPrint(t, alt(lit("c"), p, p), "'c' | "+b+" | "+b)
		if kind == api.PatCat {
			b = "(" + s + ")"
		}
		wantPrint(t, cat(p, lit("c")), b+" 'c'")
		wantPrint(t, cat(lit("c"), p, p), "'c' "+b+" "+b)
		wantPrint(t, cond(p, "W"), b+" . W")
		wantPrint(t, imm(p, "W"), b+" $ W")
	}
}

func TestD3Print(t *testing.T) {
	a, b, c := lit("a"), lit("b"), lit("c")
	for _, x := range []struct {
		p    api.Pat
		want string
	}{
		{lit(""), "''"},
		{lit("it's"), "'it''s'"},
		{text(api.PatAny, "'"), "ANY('''')"},
		{text(api.PatBreakX, "a'b"), "BREAKX('a''b')"},
		{number(api.PatLen, 0), "LEN(0)"},
		{number(api.PatTab, 10), "TAB(10)"},
		{number(api.PatRPos, 65536), "RPOS(65536)"},
		{alt(a, cond(number(api.PatLen, 2), "X")), "'a' | LEN(2) . X"},
		{cat(a, b, c), "'a' 'b' 'c'"},
		{cat(cat(a, b), c), "('a' 'b') 'c'"},
		{cat(a, cat(b, c)), "'a' ('b' 'c')"},
		{alt(a, alt(b, c)), "'a' | ('b' | 'c')"},
		{alt(cat(a, b), cat(b, c)), "'a' 'b' | 'b' 'c'"},
		{cat(alt(a, b), alt(b, c)), "('a' | 'b') ('b' | 'c')"},
		{cond(cat(a, b), "X"), "('a' 'b') . X"},
		{cond(imm(cond(a, "X"), "Y"), "Z"), "'a' . X $ Y . Z"},
		{imm(cond(alt(a, b), "X"), "Y"), "('a' | 'b') . X $ Y"},
		{cat(cond(a, "X"), imm(b, "Y")), "'a' . X 'b' $ Y"},
		{cond(call("P"), "X"), "*P . X"},
		{cond(cursor("P"), "X"), "@P . X"},
		{arbno(arbno(alt(cat(a, b), c))), "ARBNO(ARBNO('a' 'b' | 'c'))"},
		{arbno(cat(alt(a, b), c)), "ARBNO(('a' | 'b') 'c')"},
		{cond(arbno(cat(a, b)), "X"), "ARBNO('a' 'b') . X"},
		{alt(cond(alt(a, cat(b, alt(a, b))), "X"), c), "('a' | 'b' ('a' | 'b')) . X | 'c'"},
		{api.Pat{Kind: api.PatArb, Text: over, N: -5, Name: "x"}, "ARB"}, // what a kind does not name
		{api.Pat{Kind: api.PatLit, Text: "a", N: -5, Name: "x"}, "'a'"},
		{api.Pat{Kind: api.PatLen, Text: over, N: 5, Name: "x"}, "LEN(5)"},
		{api.Pat{Kind: api.PatCall, Text: over, N: -5, Name: "X"}, "*X"},
		{api.Pat{Kind: api.PatAlt, Text: over, N: -5, Name: "x", Kids: []api.Pat{a, b}}, "'a' | 'b'"},
		{wide(api.MaxNodes), strings.Repeat("ARB ", api.MaxNodes-2) + "ARB"},
		{deep(api.MaxDepth), strings.Repeat("ARBNO(", api.MaxDepth-1) + "ARB" + strings.Repeat(")", api.MaxDepth-1)},
	} {
		wantPrint(t, x.p, x.want)
	}
}

// Just MaxText bytes, and one more: whatever stands around a text that fills the rest.
func TestD3PrintTooMuch(t *testing.T) {
	rem := bare(api.PatRem)
	for _, c := range []struct {
		around        func(s string) api.Pat
		ahead, behind string
	}{
		{lit, "'", "'"},
		{func(s string) api.Pat { return text(api.PatSpan, s) }, "SPAN('", "')"},
		{func(s string) api.Pat { return lit("'" + s) }, "'''", "'"},
		{func(s string) api.Pat { return cat(lit(s), lit("")) }, "'", "' ''"},
		{func(s string) api.Pat { return cat(lit(""), lit(s)) }, "'' '", "'"},
		{func(s string) api.Pat { return cat(rem, lit(s), rem) }, "REM '", "' REM"},
		{func(s string) api.Pat { return alt(lit(s), rem) }, "'", "' | REM"},
		{func(s string) api.Pat { return alt(rem, lit(s)) }, "REM | '", "'"},
		{func(s string) api.Pat { return cond(lit(s), "X") }, "'", "' . X"},
		{func(s string) api.Pat { return imm(lit(s), "XY") }, "'", "' $ XY"},
		{func(s string) api.Pat { return arbno(lit(s)) }, "ARBNO('", "')"},
		{func(s string) api.Pat { return cond(alt(rem, lit(s)), "X") }, "(REM | '", "') . X"},
		{func(s string) api.Pat { return alt(rem, alt(rem, lit(s))) }, "REM | (REM | '", "')"},
		{func(s string) api.Pat { return cat(lit(s), number(api.PatRTab, 123)) }, "'", "' RTAB(123)"},
		{func(s string) api.Pat { return cat(lit(s), cursor("X")) }, "'", "' @X"},
		{func(s string) api.Pat { return cat(lit(s), call("X")) }, "'", "' *X"},
	} {
		left := strings.Repeat("a", api.MaxText-len(c.ahead)-len(c.behind))
		wantPrint(t, c.around(left), c.ahead+left+c.behind)
		wantTooLong(t, c.around(left+"a"))
		wantTooLong(t, c.around(left[1:]+"'"))
	}
	wantPrint(t, lit(strings.Repeat("'", api.MaxText/2-1)), strings.Repeat("'", api.MaxText))
	wantTooLong(t, lit(strings.Repeat("'", api.MaxText/2)))
	wantTooLong(t, lit(strings.Repeat("'", api.MaxText)))
	wantTooLong(t, lit(full))
}

// Many long texts, each of which may be: no more than a little of them is put together.
func TestD3PrintVeryMuch(t *testing.T) {
	p, long := alt(), lit(strings.Repeat("'", api.MaxText))
	for range api.MaxNodes - 1 {
		p.Kids = append(p.Kids, long)
	}
	wantTooLong(t, p)
	wantTooLong(t, cond(alt(p.Kids[:3]...), "X"))
}

// What is wrong is told ahead of what is too long.
func TestD3PrintWhatIsToldFirst(t *testing.T) {
	wantWrong(t, "too long, then of no kind", cat(lit(full), bare(0)), api.ErrKind)
	wantWrong(t, "too long, then empty", cat(lit(full), text(api.PatSpan, "")), api.ErrFit)
	wantWrong(t, "too many nodes", wide(api.MaxNodes+1), api.ErrMuch)
	wantWrong(t, "too deep", deep(api.MaxDepth+1), api.ErrMuch)
}

// What is written is read: it has what its kinds name.
func TestD3PrintedIsRead(t *testing.T) {
	for kind := 1; kind <= 24; kind++ {
		printedIsRead(t, good(kind))
		for _, parent := range []int{api.PatCat, api.PatAlt} {
			for other := 1; other <= 24; other++ {
				printedIsRead(t, api.Pat{Kind: parent, Kids: []api.Pat{good(kind), good(other)}})
			}
		}
	}
	d := dice(11)
	for i := range 20000 {
		printedIsRead(t, mixed(&d, 1+i%6))
	}
	printedIsRead(t, wide(api.MaxNodes))
	printedIsRead(t, deep(api.MaxDepth))
	nested := cat(lit("a"), lit("b"))
	for i := range api.MaxDepth - 2 {
		nested = api.Pat{Kind: api.PatCat + i%2, Kids: []api.Pat{nested, lit("")}}
	}
	printedIsRead(t, nested)
	for b := range 256 {
		printedIsRead(t, text(api.PatAny, string([]byte{byte(b)})))
	}
}

func printedIsRead(t *testing.T, p api.Pat) {
	t.Helper()
	s, err := pats.Print(p)
	if err != api.OK {
		t.Fatalf("Print of %s: error %d", tell(p), err)
	}
	wantRead(t, s, named(p))
}
