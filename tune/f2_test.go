package tune_test

import (
	"testing"

	"scanfail/api"
)

func TestF2Alone(t *testing.T) {
	for _, c := range []struct {
		p           string
		least, most int
	}{
		{"''", 0, 0},
		{"'a'", 1, 1},
		{"'aaa'", 3, 3},
		{"LEN(0)", 0, 0},
		{"LEN(1)", 1, 1},
		{"LEN(65536)", 65536, 65536},
		{"ANY('abc')", 1, 1},
		{"NOTANY('abc')", 1, 1},
		{"SPAN('abc')", 1, -1},
		{"BAL", 1, -1},
		{"POS(3)", 0, 0},
		{"RPOS(3)", 0, 0},
		{"FENCE", 0, 0},
		{"@X", 0, 0},
		{"BREAK('abc')", 0, -1},
		{"BREAKX('abc')", 0, -1},
		{"TAB(3)", 0, -1},
		{"TAB(0)", 0, -1},
		{"RTAB(3)", 0, -1},
		{"RTAB(0)", 0, -1},
		{"REM", 0, -1},
		{"ARB", 0, -1},
		{"*X", 0, -1},
	} {
		p := pat(c.p)
		wantLength(t, p, c.least, c.most)
		wantLength(t, cond(p, "X"), c.least, c.most)
		wantLength(t, imm(cond(p, "X"), "Y"), c.least, c.most)
		wantLength(t, alt(p, p), c.least, c.most)
		twice := 2 * c.most
		if c.most == -1 || twice > api.MaxText {
			twice = -1
		}
		wantLength(t, cat(p, p), min(2*c.least, api.MaxText+1), twice)
		wantLength(t, cat(p, bare(api.PatArb)), c.least, -1)
		wantLength(t, cat(bare(api.PatArb), p), c.least, -1)
		often := -1
		if c.most == 0 {
			often = 0
		}
		wantLength(t, arbno(p), 0, often)
	}
	wantLength(t, lit(full), api.MaxText, api.MaxText)
	wantLength(t, text(api.PatAny, full), 1, 1)
}

func TestF2Cat(t *testing.T) {
	for _, c := range []struct {
		p           string
		least, most int
	}{
		{"'a' 'bc'", 3, 3},
		{"'a' '' 'b'", 2, 2},
		{"'' ''", 0, 0},
		{"LEN(2) LEN(3) 'a' 'b'", 7, 7},
		{"POS(0) 'a' RPOS(0)", 1, 1},
		{"@X 'a' FENCE", 1, 1},
		{"'a' ARB 'b'", 2, -1},
		{"SPAN('a') SPAN('b')", 2, -1},
		{"'a' BAL 'b' BAL", 4, -1},
		{"('a' | 'bcd') ('' | 'ef')", 1, 5},
		{"('a' | 'bcd') (ARB | 'ef')", 1, -1},
		{"*P 'a' *P", 1, -1},
		{"('a' 'b') ('c' 'd')", 4, 4},
		{"ARBNO('') 'a' ARBNO(FAIL)", 1, 1},
		{"ARBNO('a') 'a'", 1, -1},
		// sums that are MaxText, and one more
		{"LEN(65535) LEN(1)", 65536, 65536},
		{"LEN(65536) LEN(0)", 65536, 65536},
		{"LEN(65536) LEN(1)", 65537, -1},
		{"LEN(1) LEN(65536)", 65537, -1},
		{"LEN(65536) LEN(2)", 65537, -1},
		{"LEN(65536) LEN(65536) LEN(65536)", 65537, -1},
		{"LEN(65536) 'a'", 65537, -1},
		{"LEN(65536) ''", 65536, 65536},
		{"LEN(65536) ('' | 'a')", 65536, -1},
		{"LEN(65536) ARB", 65536, -1},
		{"ARB LEN(65536)", 65536, -1},
		{"ARB LEN(65536) LEN(0)", 65536, -1},
		{"(LEN(65536) LEN(1)) LEN(1)", 65537, -1},
		{"(LEN(65536) LEN(1)) . X", 65537, -1},
		{"(LEN(65536) LEN(1) | LEN(65535)) LEN(1)", 65536, -1},
		{"(LEN(65536) LEN(1) | LEN(65535)) LEN(2)", 65537, -1},
		{"('' | LEN(65535)) LEN(1)", 1, 65536},
		{"('' | LEN(65536)) LEN(1)", 1, -1},
		{"LEN(65536) (LEN(1) | LEN(2)) POS(0)", 65537, -1},
	} {
		wantLength(t, pat(c.p), c.least, c.most)
	}
	lits := cat(lit(full[1:]), lit("a"))
	wantLength(t, lits, api.MaxText, api.MaxText)
	lits.Kids = append(lits.Kids, lit("a"))
	wantLength(t, lits, api.MaxText+1, -1)
}

func TestF2Alt(t *testing.T) {
	for _, c := range []struct {
		p           string
		least, most int
	}{
		{"'a' | 'bcd' | 'ef'", 1, 3},
		{"'bcd' | 'a'", 1, 3},
		{"'a' | ''", 0, 1},
		{"'' | 'abc'", 0, 3},
		{"'a' | ARB", 0, -1},
		{"ARB | 'a'", 0, -1},
		{"'aa' | SPAN('b') | 'a'", 1, -1},
		{"SPAN('b') | LEN(5)", 1, -1},
		{"LEN(5) | SPAN('b')", 1, -1},
		{"LEN(65536) | LEN(0)", 0, 65536},
		{"LEN(65536) LEN(1) | LEN(3)", 3, -1},
		{"('a' | 'bb') | ('ccc' | 'dddd')", 1, 4},
		{"('a' | 'b') . X | 'c'", 1, 1},
		{"POS(1) | RPOS(1)", 0, 0},
		// kids that never match say nothing
		{"FAIL | 'ab'", 2, 2},
		{"'ab' | FAIL", 2, 2},
		{"ABORT | 'ab' | 'c'", 1, 2},
		{"'ab' | ABORT | 'c'", 1, 2},
		{"FAIL | 'ab' | FAIL", 2, 2},
		{"ARB FAIL | 'ab'", 2, 2},
		{"'ab' | ARB FAIL", 2, 2},
		{"'' FAIL | 'ab'", 2, 2},
		{"LEN(9) ABORT | 'ab'", 2, 2},
		{"FAIL | SPAN('a')", 1, -1},
	} {
		wantLength(t, pat(c.p), c.least, c.most)
	}
}

func TestF2Arbno(t *testing.T) {
	for _, c := range []struct {
		p    string
		most int
	}{
		{"ARBNO('a')", -1},
		{"ARBNO('a' | '')", -1},
		{"ARBNO('')", 0},
		{"ARBNO(LEN(0))", 0},
		{"ARBNO(LEN(1))", -1},
		{"ARBNO(POS(1) FENCE)", 0},
		{"ARBNO(FAIL)", 0},
		{"ARBNO(ABORT)", 0},
		{"ARBNO('a' FAIL)", 0},
		{"ARBNO(ARB ABORT)", 0},
		{"ARBNO(FAIL | ABORT)", 0},
		{"ARBNO(FAIL | '')", 0},
		{"ARBNO(FAIL | 'a')", -1},
		{"ARBNO(ARB)", -1},
		{"ARBNO(*P)", -1},
		{"ARBNO(REM)", -1},
		{"ARBNO(TAB(0))", -1},
		{"ARBNO(ARBNO('a'))", -1},
		{"ARBNO(ARBNO(''))", 0},
		{"ARBNO(ARBNO(FAIL))", 0},
		{"ARBNO('' . X)", 0},
		{"ARBNO(LEN(65536) LEN(1))", -1},
	} {
		wantLength(t, pat(c.p), 0, c.most)
		behind := -1
		if c.most == 0 {
			behind = 1
		}
		wantLength(t, pat("'a' "+c.p+" . X"), 1, behind)
	}
}

func TestF2Never(t *testing.T) {
	for _, s := range []string{
		"FAIL", "ABORT", "FAIL . X", "ABORT $ X . Y", "FAIL 'a'", "'a' FAIL", "'a' FAIL 'b'", "'a' ABORT 'b'", "ARB FAIL", "LEN(65536) LEN(1) FAIL", "FAIL LEN(65536) LEN(1)",
		"FAIL | FAIL", "FAIL | ABORT", "ABORT | FAIL | ABORT", "'a' FAIL | ABORT 'b'", "('a' FAIL) . X", "(FAIL | ABORT) 'a'", "'a' (FAIL | ABORT)", "ARBNO('a') FAIL", "('a' | 'b') (FAIL | ARB FAIL)",
		"(FAIL | FAIL) | (ABORT | ABORT)", "*P FAIL", "FENCE ABORT",
	} {
		wantNever(t, pat(s))
		wantNever(t, imm(pat(s), "X"))
		wantNever(t, cat(bare(api.PatArb), pat(s)))
		wantNever(t, alt(bare(api.PatFail), pat(s)))
		wantLength(t, arbno(pat(s)), 0, 0)
		wantLength(t, alt(pat(s), lit("abc")), 3, 3)
	}
	// What has no way anywhere is not always said to have none.
	wantLength(t, pat("NOTANY('a') POS(0)"), 1, 1)
	wantLength(t, pat("TAB(1) TAB(0)"), 0, -1)
}

// Sums of the greatest patterns.
func TestF2Greatest(t *testing.T) {
	sum := cat()
	for range api.MaxNodes - 1 {
		sum.Kids = append(sum.Kids, length(api.MaxText))
	}
	wantLength(t, sum, api.MaxText+1, -1)
	for i := range sum.Kids {
		sum.Kids[i] = length(16)
	}
	wantLength(t, sum, 16*(api.MaxNodes-1), 16*(api.MaxNodes-1))
	sum.Kids[0], sum.Kids[1] = length(24), length(24)
	wantLength(t, sum, api.MaxText, api.MaxText)
	sum.Kids[2] = length(17)
	wantLength(t, sum, api.MaxText+1, -1)
	sum.Kind = api.PatAlt
	wantLength(t, sum, 16, 24)
	deep := length(0)
	for range api.MaxDepth - 1 {
		deep = cat(deep, length(1000))
	}
	wantLength(t, deep, api.MaxText+1, -1)
}

func TestF2Wrong(t *testing.T) {
	for what, w := range wrongs() {
		wantWrong(t, what+", which never matches", cat(bare(api.PatFail), w.p), w.err)
	}
}
