package fold_test

import (
	"testing"

	"scanfail/api"
)

// patterned are lines of each kind that has a pattern.
func patterned(p string) []string {
	return []string{" X ? [" + p + "]", " 'ab' ? [" + p + "]", " X ? [" + p + "] = 'b'", " T<1> ? [" + p + "] = X", " P := [" + p + "]"}
}

func wantPat(t *testing.T, p, want string) {
	t.Helper()
	wantQuicker(t, patterned(p), patterned(want)...)
}

func TestP2BecomesSimpler(t *testing.T) {
	for _, c := range [][2]string{
		{"'a' 'b'", "'ab'"},
		{"'a' 'b' | FAIL | 'c'", "'ab' | 'c'"},
		{"'a' | 'b'", "ANY('ab')"},
		{"ANY('ba')", "ANY('ab')"},
		{"ANY('aa')", "'a'"},
		{"SPAN('cba')", "SPAN('abc')"},
		{"LEN(0)", "''"},
		{"LEN(1) LEN(2)", "LEN(3)"},
		{"RTAB(0)", "REM"},
		{"ARBNO(LEN(1))", "ARB"},
		{"ARBNO(FAIL)", "''"},
		{"'a' '' 'b' . X", "'a' 'b' . X"},
		{"('a' 'b') . X $ Y", "'ab' . X $ Y"},
		{"(FAIL) . X", "FAIL"},
		{"'a' ABORT 'b'", "'a' ABORT"},
		{"(('a' | 'b') | 'c') 'd'", "ANY('abc') 'd'"},
	} {
		wantPat(t, c[0], c[1])
	}
	for _, p := range []string{"'a'", "''", "ARB", "'a' ARB", "'ab' | 'a'", "FAIL", "ABORT", "@X", "*P", "BAL . X", "FENCE 'a'", "POS(0) REM . X", "BREAKX('ab')"} {
		wantPat(t, p, p)
	}
}

// What would call fewer names stays, all of it.
func TestP2FewerNames(t *testing.T) {
	for _, p := range []string{
		"FAIL *Q", "'a' FAIL *Q", "ABORT *Q", "ABORT | *Q", "'a' ABORT | ABORT | *Q", "ARBNO(FAIL *Q)", "(FAIL *Q) . X", "(ABORT *Q) $ X", "*P FAIL *Q", "*Q | FAIL *P", "'a' 'b' FAIL *Q", "('a' | 'b') ABORT (LEN(1) LEN(2) *Q)", "FAIL (*Q . X)", "FAIL ARBNO(*Q)", "*P | ABORT | *P | *Q", "*Q | ABORT *P | *P",
	} {
		wantPat(t, p, p)
	}
}

// What calls the same names becomes simpler, though it calls them less often.
func TestP2SameNames(t *testing.T) {
	for _, c := range [][2]string{
		{"'a' '' *Q", "'a' *Q"},
		{"*Q | FAIL", "*Q"},
		{"*Q FAIL *Q", "*Q FAIL"},
		{"*Q | FAIL *Q", "*Q"},
		{"*P *Q (FAIL *P *Q)", "*P *Q FAIL"},
		{"*Q | *P | ABORT | *Q", "*Q | *P | ABORT"},
		{"('a' 'b' *P) | (*Q 'a' 'b')", "'ab' *P | *Q 'ab'"},
		{"ARBNO('a' 'b') *Q", "ARBNO('ab') *Q"},
	} {
		wantPat(t, c[0], c[1])
	}
}

// Names that are given something do not count, but those that are called.
func TestP2NamesThatAreGiven(t *testing.T) {
	for _, c := range [][2]string{
		{"FAIL 'a' . X", "FAIL"}, {"FAIL @X", "FAIL"}, {"ABORT | 'a' $ Y", "ABORT"}, {"*Q FAIL 'a' . Q", "*Q FAIL"}, {"'a' FAIL (@Q)", "'a' FAIL"},
	} {
		wantPat(t, c[0], c[1])
	}
	wantPat(t, "'a' . Q FAIL *Q", "'a' . Q FAIL *Q")
	wantPat(t, "@Q FAIL *Q", "@Q FAIL *Q")
}

// Expressions of such a statement are worked out, whether its pattern becomes simpler or stays.
func TestP2BesideExpressions(t *testing.T) {
	wantQuicker(t, []string{" 'a' & 'b' ? ['a' 'b']", " 'a' & 'b' ? [FAIL *Q]", " T<1 + 1> ? ['a' 'b'] = 1 + 1", " T<1 + 1> ? ['a' 'b' FAIL *Q] = 'c' & 'd'"},
		" 'ab' ? ['ab']", " 'ab' ? [FAIL *Q]", " T<2> ? ['ab'] = 2", " T<2> ? ['a' 'b' FAIL *Q] = 'cd'")
}

// A program which calls more names than there may be rules fails at each match, also where a name is called that is never come to.
func TestP2TooManyRules(t *testing.T) {
	names := "'a'"
	for i := range api.MaxRules {
		names += " *N" + string(rune('A'+i/26)) + string(rune('A'+i%26))
	}
	wantQuicker(t, []string{" 'a' ? [" + names + "] :F(NO)", " OUTPUT = 'found' :(END)", "NO OUTPUT = 'no'"},
		" 'a' ? ["+names+"] :F(NO)", " OUTPUT = 'found' :(END)", "NO OUTPUT = 'no'")
	l := []string{" 'a' ? [" + names + " | FAIL *MORE] :F(NO)", " OUTPUT = 'found' :(END)", "NO OUTPUT = 'no'"}
	wantStays(t, l...)
	l[0] = " 'a' ? [" + names + " ''] :F(NO)"
	k := quicker(t, program(t, l...))
	if ran := asBefore(t, program(t, l...), k, nil, 500); ran.how != api.RanEnd || ran.fewer == 0 {
		t.Errorf("%+v", ran)
	}
}

// What a pattern's kind does not name is gone where it becomes simpler, and stays where it stays.
func TestP2WhatThePatternsKindDoesNotName(t *testing.T) {
	lit := api.Pat{Kind: api.PatLit, Text: "a", N: -1, Name: "no name"}
	fail := api.Pat{Kind: api.PatFail, Text: "litter", N: 7, Name: "no name"}
	calls := api.Pat{Kind: api.PatCall, Text: "litter", N: 7, Name: "Q"}
	stays := api.Pat{Kind: api.PatCat, Text: "litter", N: 7, Name: "no name", Kids: []api.Pat{lit, fail, calls}}
	l := []api.Statement{{Kind: api.StRule, Name: "P", Pat: lit}, {Kind: api.StRule, Name: "P", Pat: stays}}
	if k := quicker(t, l); !samePat(k[0].Pat, api.Pat{Kind: api.PatLit, Text: "a"}) || !samePat(k[1].Pat, stays) {
		t.Errorf("they become %+v", k)
	}
}
