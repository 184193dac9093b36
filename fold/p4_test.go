package fold_test

import (
	"slices"
	"testing"

	"scanfail/api"
	"scanfail/run"
)

// wantSteps: a program that tells these lines takes so many steps, and made quicker so many.
func wantSteps(t *testing.T, lines, input, want []string, before, after int) {
	t.Helper()
	l := program(t, lines...)
	k := quicker(t, l)
	asBefore(t, l, k, input, 1000)
	for _, c := range []struct {
		l     []api.Statement
		steps int
	}{{l, before}, {k, after}} {
		ran, _, fault := run.Run(c.l, input, 1000)
		if fault != (api.Fault{}) || ran.How != api.RanEnd || ran.Steps != c.steps || !slices.Equal(ran.Output, want) {
			t.Errorf("Run of%s\ninput %q: %+v, fault %v; want %q within %d steps", tell(c.l), input, ran, fault, want, c.steps)
		}
	}
}

func TestP4Steps(t *testing.T) {
	wantSteps(t, []string{" OUTPUT = 'a' & 1 + 2"}, nil, []string{"a3"}, 1, 1)
	wantSteps(t, []string{" 1 :(A)", "A :(B)", "B :(C)", "C :(D)", "D OUTPUT = 'd'"}, nil, []string{"d"}, 5, 2)
	wantSteps(t, []string{" EQ(1, 2) :S(Y)F(N)", "Y :(YES)", "N :(NO)", "YES OUTPUT = 'yes' :(END)", "NO OUTPUT = 'no'"}, nil, []string{"no"}, 3, 2)
	wantSteps(t, []string{" 'ab' ? ['a' 'b' . X]", " OUTPUT = X"}, nil, []string{"b"}, 6, 6)
	wantSteps(t, []string{" 'ab' ? ['a' 'b']", " 'ba' ? ['' 'a']"}, nil, nil, 11, 5)
	wantSteps(t, []string{" P := ['a' '' 'b']", " 'ab' ? [*P] :F(END)", " OUTPUT = 'found'"}, nil, []string{"found"}, 8, 5)
	wantSteps(t, []string{"L OUTPUT = INPUT :S(M)F(N)", "M :(L)", "N :(O)", "O :(END)"}, []string{"a", "b"}, []string{"a", "b"}, 7, 3)
	wantSteps(t, []string{" DEFINE F(N) F", " OUTPUT = F(1 + 1) :(E)", "F F = N * (2 + 3) :(G)", "G :(H)", "H :(RETURN)", "E :(END)"}, nil, []string{"10"}, 6, 3)
}

// tried are programs of many kinds.
var tried = [][]string{
	{"L OUTPUT = INPUT :S(L)", " OUTPUT = 'e' & 'nd'"},
	{"L X = INPUT :F(END)", " X ? [BREAK(' ') . A LEN(0) LEN(1) REM . B] = B & '/' & A :F(N)", " OUTPUT = X :(M)", "M :(L)", "N OUTPUT = 'n' & 'o' :(M)"},
	{" X = 'ban' & 'ana'", "L X ? ['a' 'n' . Y @Z] = -1 :F(M)", " OUTPUT = X & Y & Z :(L)", "M OUTPUT = SIZE(X)"},
	{" DEFINE FACT(N) FACT", "LOOP X = INPUT :F(END)", " OUTPUT = FACT(X) :(AGAIN)", "AGAIN :(LOOP)", "FACT LE(N, 2 - 1) :S(ONE)", " FACT = N * FACT(N - (3 - 2)) :S(RETURN)F(BAD)", "BAD :(FRETURN)", "ONE FACT = 1 :(BACK)", "BACK :(RETURN)"},
	{" T<1 + 0> = 'a' & ''", " T<-1> = '0' & '0'", " $('T' & 'T') = 1 / 0 :F(NO)", "YES OUTPUT = 'yes' :(END)", "NO OUTPUT = T<'-1'> & T<1> :(END)"},
	{" P := [('(' '' *P ')' | '' 'a' '')]", "L X = INPUT :F(END)", " X ? [POS(0) *P RPOS(0)] :F(N)", " OUTPUT = 'pairs' :(L)", "N OUTPUT = 'none' :(L)"},
	{" 'aaa' ? [ARBNO('a' '') $ OUTPUT RPOS(0)]", " 'ab' ? [(LEN(1) $ OUTPUT) FAIL 'c' . X]", " 'ab' ? [ARBNO(LEN(1)) $ OUTPUT 'b' . Y]"},
	{" DEFINE F() F", " F() :(END)", " OUTPUT = 'not told'", "F :(G)", "G :(END)"},
	{" DEFINE F(N) F", "L N = N + (2 - 1)", " F(N) :S(M)", " OUTPUT = N :(END)", "M :(L)", "F LT(N, 40 * 3) :F(RETURN)", " F(N + 1) :S(BACK)F(FRETURN)", "BACK :(RETURN)"},
	{" X = DUPL('ab', 32768)", "L T<I> = X", " I = I + (1 + 0) :(M)", "M :(L)"},
	{"L OUTPUT = DUPL('a', 65535) :(M)", "M :(L)"},
	{" DEFINE ROMAN(N)T ROMAN", "LOOP X = INPUT :F(END)", " OUTPUT = ROMAN(X) :(LOOP)", "ROMAN N ? [RPOS(1) LEN(1) . T] = '' :F(RETURN)", " '0,1I,2II,3III,4IV,5V,' & '6VI,7VII,8VIII,9IX,' ? [*T BREAK(',') . T] :F(FRETURN)", " ROMAN = REPLACE(ROMAN(N), 'IVX' & 'LCDM', 'XLCDM' & DUPL('*', 2)) & T :S(RETURN)F(FRETURN)"},
	{" N = INPUT :F(END)", " I = 2 - 1", "NEXT I = I + 1", " LE(I, N) :F(END)", " J = 1 + 1", "TRY GT(J * J, I) :S(PRIME)", " EQ(REMDR(I, J), 1 - 1) :S(ON)", " J = J + 1 :(TRY)", "ON :(NEXT)", "PRIME OUTPUT = I :(ON)"},
}

// Programs that are run before and after tell and keep the same, and take no more steps.
func TestP4Programs(t *testing.T) {
	var how [4]int
	fewer := 0
	for _, lines := range tried {
		l := program(t, lines...)
		k := quicker(t, l)
		for _, input := range [][]string{nil, {"12"}, {"a b", "c", "20", "3"}, {"(a)", "((a))", "(a", "a"}, {"1994", "", "x"}} {
			o := asBefore(t, l, k, input, 20000)
			how[o.how]++
			fewer += min(o.fewer, 1)
		}
	}
	if how[api.RanEnd] < 50 || how[api.RanMuch] < 10 || fewer < 30 {
		t.Errorf("how they ended %v, %d took fewer steps: they do not tell much", how, fewer)
	}
}
