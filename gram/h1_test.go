package gram_test

import (
	"fmt"
	"slices"
	"testing"

	"scanfail/api"
	"scanfail/gram"
)

func TestH1CalledByThePattern(t *testing.T) {
	for _, c := range [][2]string{
		{"'a'", ""},
		{"ARB", ""},
		{"*A", "A"},
		{"*A *A", "A"},
		{"*B *A *B", "A B"},
		{"*C | *B | *A", "A B C"},
		{"ARBNO(*A)", "A"},
		{"*A . X", "A"},
		{"*A $ X", "A"},
		{"*A . B $ C @D", "A"},
		{"@A", ""},
		{"'a' . A", ""},
		{"'a' ('b' | ARBNO(*A 'c' | 'd' *B . X $ Y)) *C", "A B C"},
		{"FENCE *A ABORT *B", "A B"},
		{"FAIL *A", "A"},
		{"*AB *A1 *A *B *AA *A0", "A A0 A1 AA AB B"},
		{"*ABCDEFGHIJKLMN09", "ABCDEFGHIJKLMN09"},
	} {
		wantReach(t, nil, pat(c[0]), names(c[1]))
	}
}

func TestH1CalledByRules(t *testing.T) {
	chain := rules("A := *B", "B := 'b' *C", "C := *D | *E", "F := *G")
	round := rules("X := *Y", "Y := *Z", "Z := *X")
	for _, c := range []struct {
		l    []api.Rule
		p    string
		want string
	}{
		{chain, "'a'", ""},
		{chain, "*A", "A B C D E"},
		{chain, "*B", "B C D E"},
		{chain, "*C", "C D E"},
		{chain, "*D", "D"},
		{chain, "*E *D", "D E"},
		{chain, "*F", "F G"},
		{chain, "*F *C *H", "C D E F G H"},
		{chain, "*H", "H"},
		{round, "*X", "X Y Z"},
		{round, "*Z", "X Y Z"},
		{round, "*Z *Y *X", "X Y Z"},
		{round, "'X'", ""},
		{rules("A := *A"), "*A", "A"},
		{rules("A := *A *A | ''"), "*A *A", "A"},
		{rules("A := *A", "B := *C"), "*A", "A"},
		{rules("A := 'a'", "B := 'b'"), "*B", "B"},
		{rules("B := *A0 *B *A", "A := *AA", "AA := *A"), "*B", "A A0 AA B"},
		{rules("A := ARBNO(*B . X | *C $ Y)", "C := @D *D"), "*A", "A B C D"},
		{rules("A := FENCE *B", "B := ABORT"), "*A", "A B"},
		{rules("B := 'b'", "A := *C *B", "C := *A"), "*C", "A B C"},
		{rules("A := @B 'c' . C 'd' $ D"), "*A", "A"},
		{rules("E := *E '+' *T | *T", "T := *T 'x' *F | *F", "F := '(' *E ')' | 'a'"), "*F", "E F T"},
	} {
		wantReach(t, c.l, pat(c.p), names(c.want))
	}
}

// What the order of rules is means nothing.
func TestH1OrderOfRules(t *testing.T) {
	l := rules("D := *C", "C := *B", "B := *A", "A := *NOBODY")
	for range 2 {
		wantReach(t, l, pat("*D"), names("A B C D NOBODY"))
		wantReach(t, l, pat("*B"), names("A B NOBODY"))
		slices.Reverse(l)
	}
}

func TestH1WrongPattern(t *testing.T) {
	for _, w := range wrongPatterns() {
		wantNothing(t, w.what, nil, w.e, w.err)
		for _, r := range wrongRules() {
			wantNothing(t, w.what+", and "+r.what, r.e, w.e, w.err)
		}
	}
}

func TestH1WrongRules(t *testing.T) {
	for _, r := range wrongRules() {
		for _, s := range []string{"'a'", "*A", "*NOBODY", "FENCE", "ABORT *NOBODY"} {
			wantNothing(t, r.what+", with "+s, r.e, pat(s), r.err)
		}
	}
}

// Of several wrong rules the first one is told.
func TestH1FirstWrongRule(t *testing.T) {
	wrong := wrongPatterns()
	for _, a := range wrong {
		for _, b := range wrong {
			wantNoReach(t, a.what+", then "+b.what, []api.Rule{rule("A", a.e), rule("B", b.e)}, lit("a"), a.err)
		}
		wantNoReach(t, a.what+", then a name twice", []api.Rule{rule("A", a.e), rule("A", lit("a"))}, lit("a"), a.err)
		wantNoReach(t, "a name twice, with "+a.what, []api.Rule{rule("A", lit("a")), rule("A", a.e)}, lit("a"), api.ErrName)
	}
}

// Rules, nodes and names, as many as can be.
func TestH1Greatest(t *testing.T) {
	l := many(api.MaxRules)
	var all []string
	for i := range l {
		l[i].Pat = call(fmt.Sprintf("R%d", (i+1)%api.MaxRules))
		all = append(all, l[i].Name)
	}
	slices.Sort(all)
	wantReach(t, l, call("R17"), all)
	l[63].Pat = lit("a")
	wantReach(t, l, call("R61"), names("R61 R62 R63"))

	p := cat()
	var calls []string
	for i := range api.MaxNodes - 1 {
		name := fmt.Sprintf("N%d", i)
		p.Kids = append(p.Kids, call(name))
		calls = append(calls, name)
	}
	slices.Sort(calls)
	wantReach(t, nil, p, calls)
	l = many(api.MaxRules)
	for i := range l {
		l[i].Pat = p
	}
	wantReach(t, l, lit("a"), nil)
	wantReach(t, l, call("R0"), append(calls, "R0"))
	got, err := gram.Reach(many(api.MaxRules), within(call("R5"), api.MaxDepth-1))
	if err != api.OK || !slices.Equal(got, names("R5")) {
		t.Errorf("Reach of a call as deep as can be: %q, error %d", got, err)
	}
}
