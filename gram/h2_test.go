package gram_test

import (
	"math"
	"strings"
	"testing"

	"scanfail/api"
)

func TestH2NamesWithoutRules(t *testing.T) {
	for _, c := range []struct {
		p string
		l []string
	}{
		{"*A", nil},
		{"'a' | *A", nil},
		{"ARBNO(*A . X) 'a'", nil},
		{"FAIL *A", nil},
		{"*A", []string{"B := 'b'"}},
		{"*A *B", []string{"B := 'b'"}},
		{"*A", []string{"A := *B"}},
		{"*A", []string{"A := 'a' *B | 'a'", "B := *C", "C := *A | *D"}},
		{"'a' | *A", []string{"A := *A *NOBODY"}},
		{"*A FENCE", nil},
		{"*A", []string{"A := FENCE *B"}},
		{"*A *C", []string{"A := ABORT", "B := FENCE"}},
	} {
		l, p := rules(c.l...), pat(c.p)
		wantNeither(t, told(l, p), l, p, api.ErrName)
	}
	// Rules that are not reached may call whom they like.
	l := rules("A := 'a'", "B := *NOBODY", "C := *B *A")
	wantEnds(t, l, pat("*A *A"), "aab", 0, 2)
	wantEnds(t, l, pat("'b'"), "aab", 2, 3)
	wantNeither(t, "a rule that calls nobody, by another one", l, pat("*C"), api.ErrName)
}

func TestH2FenceAndAbort(t *testing.T) {
	for _, kind := range []int{api.PatFence, api.PatAbort} {
		f := bare(kind)
		for _, p := range []api.Pat{f, cat(lit("a"), f), cat(f, lit("a")), alt(lit("a"), f), arbno(f), cond(f, "X"), imm(f, "X"), within(f, 5), within(f, 90), cat(bare(api.PatFail), f), cat(lit("no"), f)} {
			wantNeither(t, tell(p), nil, p, api.ErrKind)
			l := []api.Rule{rule("C", lit("c")), rule("B", p), rule("A", cat(lit("a"), call("B")))}
			wantNeither(t, told(l, call("B")), l, call("B"), api.ErrKind)
			wantNeither(t, told(l, call("A")), l, call("A"), api.ErrKind)
			wantEnds(t, l, call("C"), "abc", 2, 3)
			wantEnds(t, l, pat("ARB"), "abc", 2, 2, 3)
		}
		round := []api.Rule{rule("A", call("B")), rule("B", alt(call("A"), f))}
		wantNeither(t, told(round, call("A")), round, call("A"), api.ErrKind)
	}
}

func TestH2TooLong(t *testing.T) {
	l := rules("A := 'a' *A | ''")
	for _, p := range []api.Pat{lit("a"), pat("*A"), bare(api.PatFail)} {
		for _, s := range []string{more, more + "aa", strings.Repeat("b", 1000), over} {
			for _, at := range []int{math.MinInt, -1, 0, 1, api.MaxGram, len(s), len(s) + 1, math.MaxInt} {
				wantNoEnds(t, tell(p), l, p, s, at, api.ErrMuch)
			}
			wantNoMember(t, tell(p), l, p, s, api.ErrMuch)
		}
	}
	var all []int
	for i := range api.MaxGram + 1 {
		all = append(all, i)
	}
	for at := range api.MaxGram + 1 {
		wantEnds(t, l, pat("*A"), full, at, all[at:]...)
		wantEnds(t, l, bare(api.PatArb), full, at, all[at:]...)
		wantEnds(t, l, bare(api.PatRem), full, at, api.MaxGram)
	}
	wantEnds(t, l, number(api.PatTab, api.MaxGram-1), full, api.MaxGram-1, api.MaxGram-1)
	wantEnds(t, l, number(api.PatTab, api.MaxGram), full, api.MaxGram, api.MaxGram)
	wantEnds(t, l, number(api.PatTab, api.MaxGram-1), full, api.MaxGram)
	wantEnds(t, l, number(api.PatTab, api.MaxGram+1), full, 0)
}

func TestH2Places(t *testing.T) {
	l := rules("A := 'a' | 'ab'")
	for _, p := range []api.Pat{pat("*A"), pat("ARB"), lit(""), bare(api.PatFail)} {
		for _, s := range []string{"", "a", "ab", full} {
			for _, at := range []int{math.MinInt, -65, -2, -1, len(s) + 1, len(s) + 2, 65, 1000, math.MaxInt} {
				wantNoEnds(t, tell(p), l, p, s, at, api.ErrRange)
			}
		}
	}
	wantEnds(t, l, pat("*A"), "abab", 0, 1, 2)
	wantEnds(t, l, pat("*A"), "abab", 1)
	wantEnds(t, l, pat("*A"), "abab", 2, 3, 4)
	wantEnds(t, l, pat("*A"), "abab", 3)
	wantEnds(t, l, pat("*A"), "abab", 4)
	wantEnds(t, l, lit(""), "abab", 4, 4)
	wantEnds(t, l, lit(""), "", 0, 0)
	wantEnds(t, l, pat("*A"), "", 0)
}

// Which of several wrongs is told.
func TestH2Order(t *testing.T) {
	name, kind, good := pat("*NOBODY FENCE"), pat("FENCE"), pat("'a'")
	for _, at := range []int{-1, 0, 99} {
		wantNoEnds(t, "a name, a kind", nil, name, more, at, api.ErrName)
		wantNoEnds(t, "a kind", nil, kind, more, at, api.ErrKind)
		wantNoEnds(t, "nothing but the subject", nil, good, more, at, api.ErrMuch)
	}
	for _, at := range []int{-1, 3} {
		wantNoEnds(t, "a name, a kind, a place", nil, name, "aa", at, api.ErrName)
		wantNoEnds(t, "a kind, a place", nil, kind, "aa", at, api.ErrKind)
		wantNoEnds(t, "nothing but the place", nil, good, "aa", at, api.ErrRange)
	}
	wantNoMember(t, "a name, a kind", nil, name, more, api.ErrName)
	wantNoMember(t, "a kind", nil, kind, more, api.ErrKind)
	wantNoMember(t, "the subject", nil, good, more, api.ErrMuch)
}

// Each kind of node without kids, where chapter 5 says that its ways end.
func TestH2Leaves(t *testing.T) {
	s := "ab(a)b"
	for _, c := range []struct {
		p    string
		at   int
		want []int
	}{
		{"'ab'", 0, []int{2}}, {"'ab'", 1, nil}, {"''", 3, []int{3}}, {"''", 6, []int{6}}, {"'ab(a)b'", 0, []int{6}}, {"'ab(a)bb'", 0, nil}, {"'b'", 6, nil},
		{"LEN(0)", 6, []int{6}}, {"LEN(2)", 4, []int{6}}, {"LEN(3)", 4, nil}, {"LEN(6)", 0, []int{6}}, {"LEN(65536)", 0, nil},
		{"ANY('ab')", 0, []int{1}}, {"ANY('ab')", 2, nil}, {"ANY('ab')", 6, nil},
		{"NOTANY('ab')", 0, nil}, {"NOTANY('ab')", 2, []int{3}}, {"NOTANY('ab')", 6, nil},
		{"SPAN('ab')", 0, []int{2}}, {"SPAN('ab')", 1, []int{2}}, {"SPAN('ab')", 2, nil}, {"SPAN('ab()')", 0, []int{6}}, {"SPAN('a')", 6, nil},
		{"BREAK('b')", 0, []int{1}}, {"BREAK('b')", 1, []int{1}}, {"BREAK('b')", 2, []int{5}}, {"BREAK('b')", 6, nil}, {"BREAK('x')", 0, nil},
		{"BREAKX('b')", 0, []int{1, 5}}, {"BREAKX('b')", 2, []int{5}}, {"BREAKX('ab')", 0, []int{0, 1, 3, 5}}, {"BREAKX('x')", 0, nil}, {"BREAKX('b')", 6, nil},
		{"TAB(3)", 0, []int{3}}, {"TAB(3)", 3, []int{3}}, {"TAB(3)", 4, nil}, {"TAB(6)", 6, []int{6}}, {"TAB(7)", 0, nil},
		{"RTAB(2)", 0, []int{4}}, {"RTAB(2)", 4, []int{4}}, {"RTAB(2)", 5, nil}, {"RTAB(0)", 6, []int{6}}, {"RTAB(7)", 0, nil},
		{"POS(2)", 2, []int{2}}, {"POS(2)", 1, nil}, {"POS(2)", 3, nil}, {"POS(0)", 0, []int{0}}, {"POS(6)", 6, []int{6}},
		{"RPOS(2)", 4, []int{4}}, {"RPOS(2)", 3, nil}, {"RPOS(0)", 6, []int{6}}, {"RPOS(6)", 0, []int{0}},
		{"REM", 0, []int{6}}, {"REM", 6, []int{6}},
		{"ARB", 0, []int{0, 1, 2, 3, 4, 5, 6}}, {"ARB", 5, []int{5, 6}}, {"ARB", 6, []int{6}},
		{"BAL", 0, []int{1, 2, 5, 6}}, {"BAL", 2, []int{5, 6}}, {"BAL", 3, []int{4}}, {"BAL", 4, nil}, {"BAL", 5, []int{6}}, {"BAL", 6, nil},
		{"FAIL", 0, nil}, {"FAIL", 6, nil},
		{"@X", 0, []int{0}}, {"@X", 4, []int{4}}, {"@X", 6, []int{6}},
	} {
		p := pat(c.p)
		wantEnds(t, nil, p, s, c.at, c.want...)
		l := []api.Rule{rule("A", p), rule("B", call("A"))}
		wantEnds(t, l, call("B"), s, c.at, c.want...)
		wantEnds(t, nil, cond(p, "X"), s, c.at, c.want...)
		wantEnds(t, nil, imm(p, "X"), s, c.at, c.want...)
	}
	wantEnds(t, nil, lit(long), full, 0)
	wantEnds(t, nil, text(api.PatAny, long), full, 0, 1)
	wantEnds(t, nil, text(api.PatSpan, long), full, 3, api.MaxGram)
	wantEnds(t, nil, lit(full), full, 0, api.MaxGram)
	wantEnds(t, nil, lit(more), full, 0)
}

// PatCat, PatAlt, PatArbno, PatCond, PatImm and PatCursor within one another.
func TestH2Nodes(t *testing.T) {
	for _, c := range []struct {
		p, s string
		at   int
		want []int
	}{
		{"'a' 'b'", "ab", 0, []int{2}},
		{"'a' 'b'", "aab", 0, nil},
		{"'a' 'b'", "aab", 1, []int{3}},
		{"ARB 'a'", "aba", 0, []int{1, 3}},
		{"ARB ARB", "ab", 0, []int{0, 1, 2}},
		{"ARB 'b' ARB", "abb", 0, []int{2, 3}},
		{"('a' | 'ab') ('c' | 'bc' | '')", "abc", 0, []int{1, 2, 3}},
		{"'a' FAIL", "a", 0, nil},
		{"FAIL 'a'", "a", 0, nil},
		{"'a' | 'b'", "a", 0, []int{1}},
		{"'ab' | 'a' | 'abc' | '' | 'a'", "abc", 0, []int{0, 1, 2, 3}},
		{"FAIL | 'a'", "a", 0, []int{1}},
		{"FAIL | FAIL", "a", 0, nil},
		{"REM | LEN(1) | POS(0)", "abc", 0, []int{0, 1, 3}},
		{"ARBNO('a')", "aab", 0, []int{0, 1, 2}},
		{"ARBNO('a')", "aab", 2, []int{2}},
		{"ARBNO('a')", "", 0, []int{0}},
		{"ARBNO('ab' | 'a')", "aabab", 0, []int{0, 1, 2, 3, 4, 5}},
		{"ARBNO('ab' | 'a')", "abab", 0, []int{0, 1, 2, 3, 4}},
		{"ARBNO(LEN(2))", "abcde", 0, []int{0, 2, 4}},
		{"ARBNO(LEN(2) | LEN(3))", "abcdef", 1, []int{1, 3, 4, 5, 6}},
		{"ARBNO('')", "ab", 1, []int{1}},
		{"ARBNO(FAIL)", "ab", 1, []int{1}},
		{"ARBNO(POS(1))", "ab", 1, []int{1}},
		{"ARBNO('' | 'a')", "aab", 0, []int{0, 1, 2}},
		{"ARBNO(ARB)", "ab", 0, []int{0, 1, 2}},
		{"ARBNO(ARBNO(ARBNO('a')))", "aab", 0, []int{0, 1, 2}},
		{"ARBNO(ARBNO('') 'a' ARBNO('b'))", "abba", 0, []int{0, 1, 2, 3, 4}},
		{"ARBNO('a' ARBNO('b') 'c')", "acabbcabb", 0, []int{0, 2, 6}},
		{"ARBNO(@X 'a')", "aa", 0, []int{0, 1, 2}},
		{"ARBNO('a') ARBNO('b')", "aabb", 0, []int{0, 1, 2, 3, 4}},
		{"ARBNO('a') 'b' | 'aa'", "aab", 0, []int{2, 3}},
		{"'a' . X", "a", 0, []int{1}},
		{"'a' $ X", "b", 0, nil},
		{"(ARB . X 'b') $ Y", "abb", 0, []int{2, 3}},
		{"('a' | 'ab') . X @Y ('c' | '') $ Z", "abc", 0, []int{1, 2, 3}},
		{"@X @Y", "ab", 1, []int{1}},
		{"@X LEN(1) @Y", "ab", 1, []int{2}},
		{"(ARBNO('a' | 'b' . X) 'c' | ARB 'd') ARBNO('e')", "abceed", 0, []int{3, 4, 5, 6}},
		{"LEN(2) | BAL | REM", "(())()", 0, []int{2, 4, 6}},
		{"POS(0) ARB RPOS(0)", "ab", 0, []int{2}},
		{"POS(0) ARB RPOS(0)", "ab", 1, nil},
	} {
		wantEnds(t, nil, pat(c.p), c.s, c.at, c.want...)
	}
}

// Rules that call themselves, first of all and behind something.
func TestH2Rules(t *testing.T) {
	sums := rules("E := *E '+' *T | *T", "T := *T 'x' *F | *F", "F := '(' *E ')' | 'a'")
	pairs := rules("P := '(' *P ')' *P | ''")
	two := rules("A := *B 'a' | ''", "B := *A 'b' | *B 'c'")
	for _, c := range []struct {
		l    []api.Rule
		p, s string
		at   int
		want []int
	}{
		{sums, "*E", "a+axa", 0, []int{1, 3, 5}},
		{sums, "*E", "a+axa", 2, []int{3, 5}},
		{sums, "*T", "a+axa", 0, []int{1}},
		{sums, "*T", "axa+a", 0, []int{1, 3}},
		{sums, "*E", "(a+a)xa+", 0, []int{5, 7}},
		{sums, "*E", "(a+a", 0, nil},
		{sums, "*E", "+a", 0, nil},
		{sums, "*E", "", 0, nil},
		{sums, "*E RPOS(0)", "a+a", 0, []int{3}},
		{sums, "ARBNO(*E 'b')", "a+abab", 0, []int{0, 4, 6}},
		{sums, "*E . X | *T $ Y | @Z", "a+a", 0, []int{0, 1, 3}},
		{pairs, "*P", "(())()", 0, []int{0, 4, 6}},
		{pairs, "*P", "(())()", 1, []int{1, 3}},
		{pairs, "*P", ")", 0, []int{0}},
		{pairs, "*P *P", "()()", 0, []int{0, 2, 4}},
		{rules("L := *L 'a' | 'b'"), "*L", "baa", 0, []int{1, 2, 3}},
		{rules("L := *L 'a' | 'b'"), "*L", "aa", 0, nil},
		{rules("L := 'b' | *L 'a'"), "*L", "baab", 0, []int{1, 2, 3}},
		{rules("R := 'a' *R | 'b'"), "*R", "aab", 0, []int{3}},
		{rules("M := 'a' *M 'a' | 'b'"), "*M", "aabaaa", 0, []int{5}},
		{rules("S := *S *S | 'a'"), "*S", "aaa", 0, []int{1, 2, 3}},
		{rules("S := *S *S | 'a' | ''"), "*S", "aaa", 1, []int{1, 2, 3}},
		{rules("S := *S *S *S | 'a'"), "*S", "aaaaaa", 0, []int{1, 3, 5}},
		{rules("S := *S *S *S | *S | 'aa'"), "*S", strings.Repeat("a", 11), 0, []int{2, 6, 10}},
		{rules("A := *A"), "*A", "aa", 0, nil},
		{rules("A := *A"), "*A | 'a'", "aa", 0, []int{1}},
		{rules("A := *A *A"), "*A", "", 0, nil},
		{rules("A := *A | ''"), "*A", "aa", 1, []int{1}},
		{rules("A := *B", "B := *A"), "*A", "aa", 0, nil},
		{rules("A := *B", "B := *A | 'a'"), "*A", "aa", 0, []int{1}},
		{rules("A := *B", "B := *A | 'a'"), "*A *B", "aa", 0, []int{2}},
		{rules("A := *B 'x' | 'y'", "B := *A 'z' | 'w'"), "*A", "wxzxzx", 0, []int{2, 4, 6}},
		{rules("A := *B 'x' | 'y'", "B := *A 'z' | 'w'"), "*B", "wxzxzx", 0, []int{1, 3, 5}},
		{rules("A := *B 'x' | 'y'", "B := *A 'z' | 'w'"), "*A", "yzx", 0, []int{1, 3}},
		{two, "*A", "bacbaba", 0, []int{0, 2}},
		{two, "*A", "bcaba", 0, []int{0, 3, 5}},
		{rules("A := ARBNO(*A 'a')"), "*A", "aaa", 0, []int{0, 1, 2, 3}},
		{rules("A := ARBNO(*A)"), "*A", "aaa", 1, []int{1}},
		{rules("A := ARBNO(*A) 'a'"), "*A", "aaa", 0, []int{1, 2, 3}},
		{rules("A := *A . X 'a' | ('' $ Y)"), "*A", "aa", 0, []int{0, 1, 2}},
		{rules("N := *Z *Z *N 'a' | 'b'", "Z := ''"), "*N", "baa", 0, []int{1, 2, 3}},
		{rules("N := *Z *N 'a' | 'b'", "Z := '' | 'c'"), "*N", "cbaca", 0, []int{3}},
		{rules("A := 'a' | 'aa'"), "*A *A *A", "aaaaaaa", 0, []int{3, 4, 5, 6}},
		{rules("A := TAB(3) | POS(3) *B", "B := RTAB(1)"), "*A *A", "abcde", 1, []int{3, 4}},
	} {
		wantEnds(t, c.l, pat(c.p), c.s, c.at, c.want...)
	}
}

// Rules that all may be nothing, and call one another ahead of and behind what is.
func TestH2RulesOfNothing(t *testing.T) {
	l := rules("A := *B *C *A | 'a'", "B := ARBNO(*A) | *C", "C := '' | *B 'c'")
	wantEnds(t, l, pat("*A"), "aca", 0, 1, 3)
	wantEnds(t, l, pat("*C"), "aca", 0, 0, 2)
	wantEnds(t, l, pat("*C"), "cc", 0, 0, 1, 2)
	for _, s := range subjects("ac", 5) {
		wantAsModel(t, l, pat("*A"), s)
		wantAsModel(t, l, pat("*B *C"), s)
	}
}

func TestH2Member(t *testing.T) {
	sums := rules("E := *E '+' *T | *T", "T := *T 'x' *F | *F", "F := '(' *E ')' | 'a'")
	for s, want := range map[string]bool{
		"": false, "a": true, "a+a": true, "a+": false, "axa+a": true, "(a)": true, "((a+a)xa)+a": true, "(a": false, "a)": false, "b": false, "aa": false, "+": false,
	} {
		wantMember(t, sums, pat("*E"), s, want)
	}
	for _, c := range []struct {
		p    string
		want bool
	}{
		{"''", true}, {"ARB", true}, {"REM", true}, {"ARBNO('a')", true}, {"POS(0)", true}, {"RPOS(0)", true}, {"TAB(0)", true}, {"@X", true}, {"LEN(0)", true},
		{"'a'", false}, {"FAIL", false}, {"BAL", false}, {"ANY('a')", false}, {"SPAN('a')", false}, {"BREAK('a')", false}, {"POS(1)", false}, {"*E", false}, {"*E | ''", true},
	} {
		wantMember(t, sums, pat(c.p), "", c.want)
	}
	wantMember(t, nil, pat("'a' | 'ab' | 'abc'"), "abc", true)
	wantMember(t, nil, pat("'abc' | 'ab' | 'a'"), "ab", true)
	wantMember(t, nil, pat("'a' | 'b'"), "ba", false)
	wantMember(t, nil, pat("'a'"), "ba", false)
	wantMember(t, rules("S := *S *S | 'a'"), pat("*S"), full, true)
	wantMember(t, rules("S := *S *S | 'aa'"), pat("*S"), full[1:], false)
}

// Many ways that end at the same places; none is told twice, and all is done in no time worth telling.
func TestH2ManyWays(t *testing.T) {
	var all []int
	for i := range api.MaxGram + 1 {
		all = append(all, i)
	}
	wantEnds(t, rules("S := *S *S | 'a' | ''"), pat("*S"), full, 0, all...)
	wantEnds(t, rules("S := *S *S *S | 'a' | ''"), pat("*S *S"), full, 7, all[7:]...)
	wantEnds(t, rules("S := ARB *S ARB | *S *S | ARB"), pat("*S"), full, 0, all...)
	wantEnds(t, nil, pat("ARBNO(ARBNO(ARB) ARBNO('a' | 'aa') ARB)"), full, 0, all...)
	wantEnds(t, nil, pat("ARBNO('a' | 'a' | 'aa') 'b'"), full, 0)
	wantEnds(t, rules("S := *S *S 'b' | 'a' *S | ''"), pat("*S 'b'"), full, 0)
}
