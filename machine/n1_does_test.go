package machine_test

import (
	"fmt"
	"slices"
	"testing"

	"scanfail/api"
)

// Statements of each kind that succeed.
func TestN1Succeeds(t *testing.T) {
	wantRan(t, ask("L", " DEFINE F(A)B L", "M :F(L)"), `end 3 [1 1 1] []`)
	wantRan(t, ask(" 1 :F(END)", " X :F(END)", " INPUT :F(END)", " EQ(1, 1) :F(END)", " 'a' & 2 :F(END)", " Y = INPUT").in("a", "b"), `end 6 [1 1 1 1 1 1] [] Y="b"`)
	wantRan(t, ask(" X = 'a' & 1 :F(END)", " T<X> = X & X :F(END)", " $('Y' & 1) = T<'a1'> :F(END)", " Y1 = Y1 & '.' :F(END)", " X = '' :F(END)", " OUTPUT = Y1 & X :F(END)", " Z = 1"), `end 7 [1 1 1 1 1 1 1] ["a1a1."] Y1="a1a1." Z="1" T<"a1">="a1a1"`)
	wantRan(t, ask(" 'banana' ? ['an' . X] :F(END)", " 12 + 3 ? ['5' . Y] :F(END)", " Z = 1"), `end 11 [1 1 1] [] X="an" Y="5" Z="1"`)
	wantRan(t, ask(" X = 'banana'", " X ? ['an'] = '<' & 1 & '>' :F(END)", " T<1> ? [''] = X :F(END)", " $'Z' ? [''] = T<1> & '.' :F(END)", " OUTPUT ? [@Y] = Z :F(END)"), `end 10 [1 1 1 1 1] ["b<1>ana."] X="b<1>ana" Y="0" Z="b<1>ana." T<"1">="b<1>ana"`)
	wantRan(t, ask(" P := ['b'] :F(END)", " 'abc' ? [*P . X]", " P := ['c'] :F(END)", " 'abc' ? [*P . Y]"), `end 19 [1 1 1 1] [] X="b" Y="c"`)
}

// failing are bodies of statements that fail, each at another place, with as much ahead of it as can be.
var failing = []string{
	// StEval, in each kind of expression
	"INPUT", "'a' & INPUT", "'a' & ('b' & INPUT)", "T<'a' & INPUT>", "'a' & T<INPUT>", "$'x'", "'a' & $''", "'a' & $INPUT", "$(1 / 0)", "-'x'", "'a' & -'x'", "-(1 / 0)",
	"1 / 0", "1 + (2 + 3 / 0)", "'a' + 1", "1 + 'a'", "1 - 'a'", "1 * 'a'", "1 % 0", "'a' & 1 % 'a'", "DUPL('a', 65536) & 'b'", "'a' & ('b' & DUPL('a', 65536))",
	"SIZE(INPUT)", "SUBSTR('a', 5, 1)", "SUBSTR('a', 1, 'x')", "REPLACE('a', 'b', 1 / 0)", "REPLACE('a', 1 / 0, 'b')", "'a' & LPAD('a', 2, '')", "'a' & EQ(1, 2)", "IDENT('a', 'b')", "INTEGER('a')",
	"G('a', 'b')", "'a' & G('b', 'c')", "'a' & ('b' & G('c'))", "G(1 / 0)", "G('a', 1 / 0)", "G('a', G('b'))", "SIZE(G())", "T<G()>", "$G()", "-G()", "REPLACE('a', 'b', G('c'))",
	// StAssign: the place, what it is given, the giving
	"T<1 / 0> = 'b'", "T<G()> = 'b'", "$'' = 'b'", "$(1 / 0) = 'b'", "$('a' & INPUT) = 'b'", "T<'a'> = 1 / 0", "X = 'a' & 1 / 0", "T<'a'> = 'b' & G('c')", "$'X' = 'a' & INPUT", "INPUT = 'a'", "$'INPUT' = 'a' & 'b'", "OUTPUT = 'a' & INPUT",
	// StMatch: the subject, the match
	"1 / 0 ? ['a']", "'a' & G('b') ? ['a']", "'a' & INPUT ? [ARB]", "'a' & 'b' ? ['x']", "'a' ? [LEN(1) ABORT]", "X ? [*Q LEN(1)]", "'a' ? [" + calls(0, 65) + "]",
	// StReplace: the place, reading it, the match, what it is given, the giving
	"T<1 / 0> ? [ARB] = 'b'", "T<G()> ? [ARB] = 'b'", "$'x' ? [ARB] = 'b'", "$G('A') ? [ARB] = 'b'", "INPUT ? [ARB] = 'b'", "$'INPUT' ? [ARB] = 'b'", "W<'k'> ? ['x'] = 'b'", "W<'k'> ? [" + calls(0, 65) + "] = 'b'",
	"W<'k'> ? [ARB] = 'a' & 1 / 0", "W<'k'> ? [ARB] = 'a' & INPUT", "W<'k'> ? [ARB] = G('a', 'b')", "A ? [ARB] = 'b' & G('a', 'b')", "W<'l'> ? [POS(1)] = 'b'",
}

// calls are so many names' calls in one pattern, as alternatives.
func calls(from, n int) string {
	out := fmt.Sprint("*V", from)
	for i := 1; i < n; i++ {
		out += fmt.Sprint(" | *V", from+i)
	}
	return out
}

// Each fails: it goes on at Noes, and has done nothing; what was put on the stacks ahead of it, and what others had put there, is as it was ahead of it.
func TestN1Fails(t *testing.T) {
	behind := []string{" DEFINE F(A) F", " DEFINE G(X,Y) G", "G X = 'a' & ('b' & 1 / 0)", " W<X> = 'a' & 1 / 0 :(FRETURN)"}
	for _, body := range failing {
		told := func(want string, lines ...string) {
			t.Helper()
			wantTold(t, ask(slices.Concat([]string{" W<'l'> = DUPL('w', 65536)"}, lines, behind)...), want)
		}
		told("[a]", " "+body+" :S(END)", " OUTPUT = '[' & 'a' & ']' :(END)", "F")
		told("[a]", " "+body+" :F(NO)", " OUTPUT = 'yes' :(END)", "NO OUTPUT = '[' & 'a' & ']' :(END)", "F")
		// In a call, while texts, or a place, stand on the stacks: they are found by those that put them there.
		told("<f>.", " W<'k'> = '<' & F(1) & '>'", " OUTPUT = W<'k'> & '.' :(END)", "F "+body+" :S(END)", " F = 'f' :(RETURN)")
		told("<f>.", " W<'k'> = '<' & F(1) & '>'", " OUTPUT = W<'k'> & '.' :(END)", "F F = 'f'", " "+body+" :F(RETURN)", " :(END)")
		told("no[f]", " W<'k'> = '<' & (F(1) & '>') :S(END)", " F = 'f'", " OUTPUT = 'no' & W<'k'> & '[' & F & ']' :(END)", "F "+body+" :F(FRETURN)", " :(END)")
		told("fails2", " OUTPUT = 'fails' & (REPLACE('a' & F(1), 'a', '') & F(2)) :S(END)", " OUTPUT = 'fails' & (SIZE('a' & 'b') & F(3)) :(END)", "F "+body+" :S(END)", " F = '' :(RETURN)")
	}
}

// One that fails does nothing behind where it fails; what was done ahead of that stays done.
func TestN1FailsThere(t *testing.T) {
	wantTold(t, helped(" T(1) & T(2)", " T(3) & NO() & T(9)", " NO() & T(9)", " 'a' & (T(4) & (1 / 0 & T(9)))"), "T1", "T2", "T3", "no", "no", "T4")
	wantTold(t, helped(" S<T('k')> = T('v')", " OUTPUT = S<'k'>"), "Tk", "Tv", "v")
	wantTold(t, helped(" S<NO()> = T('v')", " $T('x') = T('v')", " S<T('k')> = NO()", " INPUT = T('v')", " OUTPUT = S<'k'> & S<''>"), "no", "Tx", "Tk", "no", "Tv", "")
	wantTold(t, helped(" NO() ? [LEN(0) $ OUTPUT]", " T('ab') & NO() ? [LEN(0) $ OUTPUT]", " T('ab') ? [LEN(1) $ OUTPUT FAIL]"), "no", "Tab", "no", "Tab", "a", "b")
	wantTold(t, helped(" S<'k'> = 'abc'", " S<T('k')> ? ['b' $ OUTPUT] = T('v')", " OUTPUT = S<'k'>"), "Tk", "b", "Tv", "avc")
	wantTold(t, helped(" S<NO()> ? ['' $ OUTPUT] = T('v')", " $T('x') ? ['' $ OUTPUT] = T('v')", " $T('INPUT') ? ['' $ OUTPUT] = T('v')"), "no", "Tx", "TINPUT")
	wantTold(t, helped(" S<T('k')> ? ['x' | LEN(0) $ OUTPUT FAIL] = T('v')", " S<T('k')> ? [LEN(0) $ OUTPUT] = NO()", " OUTPUT = 'x' & S<'k'>"), "Tk", "", "Tk", "", "no", "x")
	wantRan(t, ask(" X = DUPL('a', 65535)", " X ? [LEN(1) . Y] = 'bcd' :S(END)", " X ? [LEN(1)] = 'bc' :F(END)", " Z = 1"), `end 7 [1 1 1 1] [] X="bc".."aa":65536 Y="a" Z="1"`)
	wantRan(t, helped(" INPUT ? ['b' . X] = T('v') :S(END)", " Y = INPUT").in("abc", "d"), `end 9 [1 1 1 0 0 1 1 0] ["Tv"] X="b" Y="d"`)
}

// Places and texts are those that they were when they were put on the stacks.
func TestN1PutAside(t *testing.T) {
	wantRan(t, ask(" DEFINE F() F", " K = 'a'", " S<K> = F() :(END)", "F K = K & 'b'", " F = K :(RETURN)"), `end 5 [1 1 1 1 1] [] K="ab" S<"a">="ab"`)
	wantRan(t, ask(" DEFINE F() F", " K = 'A'", " $K = F()", " $('V' & K) = F() :(END)", "F K = K & 'B'", " F = K :(RETURN)"), `end 8 [1 1 1 1 2 2] [] A="AB" K="ABB" VAB="ABB"`)
	wantRan(t, ask(" DEFINE F() F", " X = 'a'", " Y = X & F() & X :(END)", "F X = 'b' :(RETURN)"), `end 4 [1 1 1 1] [] X="b" Y="ab"`)
	wantRan(t, ask(" X = 'abc'", " X ? ['b' . X] = X & X"), `end 6 [1 1] [] X="abbc"`)
	wantRan(t, ask(" K = 'k'", " T<K> = 'abc'", " T<K> ? ['b' $ K] = K"), `end 7 [1 1 1] [] K="b" T<"k">="abc"`)
	wantRan(t, ask(" DEFINE F() F", " X = 'abc'", " X ? ['b'] = F() :(END)", "F X = 'other'", " F = 'f' :(RETURN)"), `end 7 [1 1 1 1 1] [] X="afc"`)
	// A function that does the same within itself.
	wantTold(t, ask(" DEFINE F(N) F", " OUTPUT = F(3) & T<2> :(END)", "F EQ(N, 0) :S(RETURN)", " T<N> = 'abc'", " T<N> ? ['b'] = '(' & F(N - 1) & ')'", " F = T<N> :(RETURN)"), "a(a(a()c)c)ca(a()c)c")
}

func TestN1Expressions(t *testing.T) {
	for expr, want := range map[string]string{
		"''": "", "'a b'": "a b", "'007'": "007", "0": "0", "9223372036854775807": "9223372036854775807", "X": "", "A": "a", "A & B & A": "aba", "T<1>": "t", "T<0 + 1> & T<'1'>": "tt", "T<2>": "", "T<T<1>>": "u", "INPUT<1>": "",
		"$'A'": "a", "$C": "a", "$$D": "a", "$('A' & '')": "a", "OUTPUT & $'OUTPUT'": "", "1 & 2 + 3 & 4": "154", "7 - 2 - 1": "4", "2 * 3 + 4 * 5": "26", "-7 / 2": "-3", "-7 % 2": "-1", "7 % -2": "1", "-(2 + 3)": "-5", "--5": "5", "-0": "0", "' 2 ' + '+3'": "5", "'' + ''": "0",
		"SIZE('abc')": "3", "TRIM('a ')": "a", "REVERSE('abc')": "cba", "REPLACE('abc', 'ab', 'xy')": "xyc", "COUNT('banana', 'an')": "2", "DUPL('ab', 2)": "abab", "ROTATE('abc', 1)": "bca", "SUBSTR('hello', 2, 3)": "ell", "LPAD('7', 3, '0')": "007", "RPAD('7', 3, '.')": "7..",
		"ROOT(99)": "9", "REMDR(-7, 2)": "-1", "POWER(2, 10)": "1024", "GCD(12, 18)": "6", "BASE(255, 16)": "ff", "UNBASE('ff', 16)": "255", "INTEGER(' 1 ')": "",
		"IDENT('a', 'a')": "", "DIFFER('a', 'b')": "", "LGT('b', 'a')": "", "EQ(1, '01')": "", "NE(1, 2)": "", "LT(1, 2)": "", "LE(2, 2)": "", "GT(2, 1)": "", "GE(2, 2)": "",
	} {
		wantTold(t, ask(" A = 'a'", " B = 'b'", " C = 'A'", " D = 'C'", " T<1> = 't'", " T<'t'> = 'u'", " OUTPUT = '[' & ("+expr+") & ']'"), "["+want+"]")
	}
	for _, expr := range []string{"IDENT('a', 'b')", "DIFFER('a', 'a')", "LGT('a', 'a')", "EQ(1, 2)", "NE(1, '01')", "LT(2, 2)", "LE(3, 2)", "GT(2, 2)", "GE(1, 2)", "EQ('x', 'x')", "INTEGER('1x')", "9223372036854775807 + 1", "DUPL('a', -1)", "ROOT(-1)", "POWER(2, 63)", "BASE(1, 37)", "COUNT('a', '')"} {
		wantTold(t, ask(" OUTPUT = '[' & ("+expr+") & ']' :S(END)", " OUTPUT = 'failed'"), "failed")
	}
}

func TestN1InputAndOutput(t *testing.T) {
	wantRan(t, ask(" A = INPUT", " B = $'INPUT'", " C = INPUT & INPUT", " D = INPUT :S(END)", " F = 1").in("a", "", "b", "c"), `end 5 [1 1 1 1 1] [] A="a" C="bc" F="1"`)
	wantRan(t, ask(" A = INPUT & INPUT & INPUT", " B = INPUT", " INPUT = INPUT").in("a", "b"), `end 3 [1 1 1] []`)
	wantRan(t, ask(" $INPUT = INPUT", " T<INPUT> = INPUT", " $INPUT = INPUT").in("X", "a", "k", "b", "OUTPUT", "c"), `end 3 [1 1 1] ["c"] X="a" T<"k">="b"`)
	wantRan(t, ask(" OUTPUT = 'a'", " $'OUTPUT' = 'b'", " OUTPUT = ''", " X = OUTPUT & 'x'", " INPUT<'k'> = 'a'", " OUTPUT<'k'> = 'b'", " Y = INPUT<'k'> & OUTPUT<'k'>"), `end 7 [1 1 1 1 1 1 1] ["a" "b" ""] X="x" Y="ab" INPUT<"k">="a" OUTPUT<"k">="b"`)
}

func TestN1ItemsAndIndirect(t *testing.T) {
	wantRan(t, ask(" T<'a'> = 1", " T<T<'a'>> = 'b'", " $('V' & T<'a'>) = 'c'", " $'B' = 'd'", " OUTPUT = T<'a'> & T<1> & $'B' & V1 & T<'z'>", " T<'a'> = ''"), `end 6 [1 1 1 1 1 1] ["1bdc"] B="d" V1="c" T<"1">="b"`)
	wantRan(t, ask(" T = 'a'", " T<''> = 'b'", " T<T> = 'c'", " $T<''> = 'd' :S(END)", " $('T' & '') = 'X'", " $$'T' = 'e'"), `end 6 [1 1 1 1 1 1] [] T="X" X="e" T<"">="b" T<"a">="c"`)
	wantRan(t, ask(" T<'k'> = 'abc'", " T<'k'> ? ['b'] = 'x'", " X = 'abc'", " Y = 'X'", " $Y ? ['c'] = Y"), `end 10 [1 1 1 1 1] [] X="abX" Y="X" T<"k">="axc"`)
	for _, name := range []string{"", "x", "1", "1A", "A B", " A", "A_", "T<1>", "ABCDEFGHIJKLMNOPQ"} {
		wantTold(t, ask(" OUTPUT = $"+quoted(name)+" & 'x' :S(END)", " $"+quoted(name)+" = 1 :S(END)", " $"+quoted(name)+" ? [''] = 1 :S(END)", " OUTPUT = 'failed'"), "failed")
	}
	wantRan(t, ask(" $'ABCDEFGHIJKLMNOP' = 'f'"), `end 1 [1] [] ABCDEFGHIJKLMNOP="f"`)
}

// What was told at once is given, one behind the other, then what was given.
func TestN1Gifts(t *testing.T) {
	wantTold(t, ask(" 'abc' ? [LEN(1) . OUTPUT LEN(1) $ OUTPUT LEN(1) . OUTPUT @OUTPUT]"), "b", "3", "a", "c")
	wantTold(t, ask(" X = 'abc'", " X ? [LEN(1) . OUTPUT LEN(1) $ OUTPUT LEN(1) . OUTPUT @OUTPUT] = 'd'", " OUTPUT = X"), "b", "3", "a", "c", "d")
	wantRan(t, ask(" 'abc' ? [LEN(1) . X LEN(1) $ X LEN(1) . Y]"), `end 8 [1] [] X="a" Y="c"`)
	wantRan(t, ask(" X = 'x'", " Y = 'y'", " 'abc' ? [(LEN(2) $ X) . Y 'd'] :S(END)", " Z = 1"), `end 22 [1 1 1 1] [] X="bc" Y="y" Z="1"`)
	wantRan(t, ask(" X = 'abc'", " Y = 'y'", " X ? [(LEN(2) $ Z) . Y 'd'] = 'never' :S(END)"), `end 21 [1 1 1] [] X="abc" Y="y" Z="bc"`)
	wantRan(t, ask(" 'abc' ? [LEN(1) $ INPUT LEN(1) $ X @INPUT LEN(1) . INPUT @Y REM . Z] :F(END)", " W = INPUT").in("line"), `end 13 [1 1] [] W="line" X="b" Y="3"`)
	wantRan(t, ask(" X = 'k=v'", " X ? [BREAK('=') . K LEN(1) REM . V] = V & '=' & K"), `end 8 [1 1] [] K="k" V="v" X="v=k"`)
}

func TestN1Rules(t *testing.T) {
	wantTold(t, ask(" P := ['b']", " 'abc' ? [*P . OUTPUT]", " P := [REM]", " 'abc' ? [*P . OUTPUT]"), "b", "abc")
	wantTold(t, ask(" X = 'b'", " 'abc' ? [*X . OUTPUT REM . OUTPUT]", " X = 'c'", " 'abc' ? [*X . OUTPUT]", " 'abc' ? [*NEVER . OUTPUT]"), "b", "c", "c", "")
	wantRan(t, ask(" X = 'b'", " X := ['c']", " 'abc' ? [*X . Y]", " X = 'a'", " 'abc' ? [*X . Z]"), `end 23 [1 1 1 1 1] [] X="a" Y="c" Z="c"`)
	wantTold(t, ask(" A := [*B 'x' | *C]", " B := [*D]", " C := ['c' *E]", " D = 'd'", " E = 'e'", " '-dx-ce' ? [*A . OUTPUT '-' *A . OUTPUT]"), "dx", "ce")
	wantTold(t, ask(" P := [('(' *P ')' | '')]", " X = '((()))'", " X ? [POS(0) *P . OUTPUT RPOS(0)] = '.'", " OUTPUT = X", " '((())' ? [POS(0) *P . OUTPUT RPOS(0)]"), "((()))", ".")
	// A rule that is given within a call stays; a rule's statement that is not come to gives none.
	wantTold(t, ask(" DEFINE F() F", " P := ['a']", " F()", " 'abc' ? [*P . OUTPUT] :(END)", "F P := ['b'] :(RETURN)", " P := ['c']"), "b")
	for _, n := range []int{api.MaxRules, api.MaxRules + 1} {
		want := map[int]string{api.MaxRules: "found", api.MaxRules + 1: "failed"}[n]
		wantTold(t, ask(" V0 = 'found'", " 'found' ? [("+calls(0, n)+") . OUTPUT] :S(END)", " OUTPUT = 'failed'"), want)
		wantTold(t, ask(" V0 = 'found'", " A := ["+calls(0, n-1)+"]", " 'found' ? [*A . OUTPUT] :S(END)", " OUTPUT = 'failed'"), want)
	}
}
