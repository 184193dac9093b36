package run_test

import (
	"fmt"
	"slices"
	"strings"
	"testing"

	"scanfail/api"
)

func TestL6Nothing(t *testing.T) {
	wantRan(t, ask("L", " DEFINE F(A)B L", "M :F(L)"), `end 3 [1 1 1] []`)
	wantRan(t, ask(" A = 1", " F = 2", " DEFINE F(A)B L", "L"), `end 4 [1 1 1 1] [] A="1" F="2"`)
}

func TestL6Eval(t *testing.T) {
	wantRan(t, ask(" 1 :F(END)", " X :F(END)", " INPUT :F(END)", " Y = INPUT").in("a", "b"), `end 4 [1 1 1 1] [] Y="b"`)
	wantRan(t, ask(" INPUT :S(END)", " 1 / 0 :S(END)", " EQ(1, 2) :S(END)", " EQ(1, 1) :F(END)", " X = 1"), `end 5 [1 1 1 1 1] [] X="1"`)
	wantTold(t, helped(" T(1) & T(2)", " T(3) & NO()", " NO() & T(4)"), "T1", "T2", "T3", "no", "no")
}

func TestL6Assign(t *testing.T) {
	wantRan(t, ask(" X = 'a' & 1 :F(END)", " T<X> = X & X :F(END)", " $('Y' & 1) = T<'a1'> :F(END)", " Y1 = Y1 & '.' :F(END)", " X = '' :F(END)", " Z = X"), `end 6 [1 1 1 1 1 1] [] Y1="a1a1." T<"a1">="a1a1"`)
	wantRan(t, ask(" X = 'a'", " X = 1 / 0 :S(END)", " X = INPUT :S(END)", " $'x' = 1 :S(END)", " $'' = 1 :S(END)", " T<1 / 0> = 1 :S(END)", " $(1 / 0) = 1 :S(END)", " Y = 1"), `end 8 [1 1 1 1 1 1 1 1] [] X="a" Y="1"`)
	wantRan(t, ask(" $INPUT = INPUT", " T<INPUT> = INPUT", " $INPUT = INPUT").in("X", "a", "k", "b", "OUTPUT", "c"), `end 3 [1 1 1] ["c"] X="a" T<"k">="b"`)
}

// The place first, then what it is given; what fails leaves all behind it undone.
func TestL6AssignOrder(t *testing.T) {
	wantTold(t, helped(" S<T('k')> = T('v')", " OUTPUT = S<'k'>"), "Tk", "Tv", "v")
	wantTold(t, helped(" $T('Y') = T('v')", " OUTPUT = Y"), "TY", "Tv", "v")
	wantTold(t, helped(" OUTPUT = T('v')"), "Tv", "v")
	wantTold(t, helped(" S<NO()> = T('v')", " OUTPUT = S<''>"), "no", "")
	wantTold(t, helped(" $NO() = T('v')"), "no")
	wantTold(t, helped(" $T('x') = T('v')"), "Tx")
	wantTold(t, helped(" $T('') = T('v')"), "T")
	wantTold(t, helped(" S<T('k')> = NO()", " OUTPUT = S<'k'>"), "Tk", "no", "")
	wantTold(t, helped(" INPUT = T('v') :S(END)", " OUTPUT = 'not given'"), "Tv", "not given")
	// The place is the one that it was ahead of working out what it is given.
	wantRan(t, ask(" DEFINE F() F", " K = 'a'", " S<K> = F() :(END)", "F K = K & 'b'", " F = K :(RETURN)"), `end 5 [1 1 1 1 1] [] K="ab" S<"a">="ab"`)
	wantRan(t, ask(" DEFINE F() F", " K = 'A'", " $K = F()", " $('V' & K) = F() :(END)", "F K = K & 'B'", " F = K :(RETURN)"), `end 8 [1 1 1 1 2 2] [] A="AB" K="ABB" VAB="ABB"`)
}

func TestL6Match(t *testing.T) {
	wantRan(t, ask(" 'banana' ? ['an' . X] :F(END)", " Y = 1"), `end 6 [1 1] [] X="an" Y="1"`)
	wantRan(t, ask(" 'banana' ? ['x'] :S(END)", " Y = 1"), `end 9 [1 1] [] Y="1"`)
	wantRan(t, ask(" X ? [''] :F(END)", " Y = 1"), `end 3 [1 1] [] Y="1"`)
	wantRan(t, ask(" 12 + 3 ? ['5' . X]"), `end 5 [1] [] X="5"`)
	wantRan(t, ask(" INPUT ? [LEN(1) . X]", " INPUT ? [LEN(1) . Y] :S(END)", " Z = 1").in("a"), `end 5 [1 1 1] [] X="a" Z="1"`)
	// It is not anchored: but for POS(0) it is found anywhere.
	wantRan(t, ask(" 'xxab' ? [@X 'ab' @Y]"), `end 11 [1] [] X="2" Y="4"`)
	// What fails ahead of the match leaves it.
	wantTold(t, helped(" NO() ? [LEN(0) $ OUTPUT]"), "no")
	wantTold(t, helped(" T('ab') & NO() ? [LEN(0) $ OUTPUT]"), "Tab", "no")
	wantTold(t, helped(" T('ab') ? [LEN(1) $ OUTPUT FAIL] :S(END)", " OUTPUT = 'failed'"), "Tab", "a", "b", "failed")
}

// What was told at once is given, one behind the other, then what was given.
func TestL6Gifts(t *testing.T) {
	wantTold(t, ask(" 'abc' ? [LEN(1) . OUTPUT LEN(1) $ OUTPUT LEN(1) . OUTPUT @OUTPUT]"), "b", "3", "a", "c")
	wantTold(t, ask(" 'abc' ? [(LEN(1) . OUTPUT LEN(1) . OUTPUT) . OUTPUT REM $ OUTPUT]"), "c", "a", "b", "ab")
	wantRan(t, ask(" 'abc' ? [LEN(1) . X LEN(1) $ X LEN(1) . Y]"), `end 8 [1] [] X="a" Y="c"`)
	wantRan(t, ask(" 'abc' ? [LEN(1) $ X LEN(1) $ X LEN(1) . Y REM . Y]", " Z = 1"), `end 11 [1 1] [] X="b" Z="1"`)
	wantRan(t, ask(" X = 'x'", " Y = 'y'", " 'abc' ? [(LEN(1) $ X) . Y 'c'] :F(END)", " Z = 1"), `end 14 [1 1 1 1] [] X="b" Y="b" Z="1"`)
	// Where nothing is found what was told at once is given none the less, and nothing else.
	wantRan(t, ask(" X = 'x'", " Y = 'y'", " 'abc' ? [(LEN(2) $ X) . Y 'd'] :S(END)", " Z = 1"), `end 22 [1 1 1 1] [] X="bc" Y="y" Z="1"`)
	wantRan(t, ask(" X = 'x'", " 'abc' ? [LEN(1) $ X ABORT] :S(END)", " Z = X"), `end 7 [1 1 1] [] X="a" Z="a"`)
	// A name that is given nothing has nothing then.
	wantRan(t, ask(" X = 'x'", " Y = 'y'", " 'abc' ? [LEN(0) $ X LEN(0) . Y]"), `end 8 [1 1 1] []`)
}

// What can't be given is left: all else is given, and the match has succeeded.
func TestL6GiftsThatCantBeGiven(t *testing.T) {
	wantRan(t, ask(" 'abc' ? [LEN(1) $ INPUT LEN(1) $ X @INPUT LEN(1) . INPUT @Y REM . Z] :F(END)", " W = INPUT").in("line"), `end 13 [1 1] [] W="line" X="b" Y="3"`)
	wantRan(t, ask(" 'abc' ? [LEN(1) . INPUT LEN(1) . X] :F(END)", " W = INPUT :F(END)", " Z = 1"), `end 7 [1 1 0] [] X="b"`)
	wantRan(t, ask(" X = 'abc'", " X ? [LEN(1) . INPUT] = '-' :F(END)", " Z = 1"), `end 5 [1 1 1] [] X="-bc" Z="1"`)
	wantRan(t, ask(" 'abc' ? [LEN(1) $ INPUT 'x'] :S(END)", " Z = 1"), `end 17 [1 1] [] Z="1"`)
}

// The run ends where giving ends it: nothing behind it is given, and nothing else is done.
func TestL6GiftsThatEndTheRun(t *testing.T) {
	full := []string{" A0 = DUPL('a', 65534)"}
	for _, c := range []struct{ line, other string }{
		{" 'abc' ? [LEN(1) $ B LEN(1) $ C LEN(1) $ D LEN(0) $ A0]", "A0=a65534 B=a1 C=b1"},
		{" 'abc' ? [LEN(1) . B LEN(1) . C LEN(1) . D LEN(0) . A0]", "A0=a65534 B=a1 C=b1"},
		{" 'abc' ? [LEN(1) . B LEN(2) $ C LEN(0) . A0]", "A0=a65534 C=b2"},
		{" 'abc' ? [LEN(1) . B LEN(1) $ C LEN(1) . D LEN(0) . A0]", "A0=a65534 B=a1 C=b1"},
		{" A1 ? [LEN(1) $ B LEN(2) $ C] = OUTPUT", "A0=a65534 B=a1"},
	} {
		wantFull(t, slices.Concat(full, []string{c.line + " :S(NO)F(NO)", "NO OUTPUT = 'never'"}), api.RanMuch, c.other)
	}
	wantFull(t, slices.Concat(full, []string{" 'abc' ? [LEN(0) $ A0 LEN(1) $ B LEN(1) $ C LEN(1) $ D]"}), api.RanEnd, "A0= B=a1 C=b1 D=c1")
}

func TestL6Rules(t *testing.T) {
	wantTold(t, ask(" P := ['b']", " 'abc' ? [*P . OUTPUT]", " P := [REM]", " 'abc' ? [*P . OUTPUT]"), "b", "abc")
	wantTold(t, ask(" P := ['b' | 'c']", " P := ['c']", " 'abc' ? [*P . OUTPUT]"), "c")
	// A variable that has no pattern of that name: what it has.
	wantTold(t, ask(" X = 'b'", " 'abc' ? [*X . OUTPUT REM . OUTPUT]", " X = 'c'", " 'abc' ? [*X . OUTPUT]", " X = ''", " 'abc' ? [*X . OUTPUT]", " 'abc' ? [*NEVER . OUTPUT]"), "b", "c", "c", "", "")
	wantTold(t, ask(" X = 'LEN(1)'", " 'abLEN(1)' ? [*X . OUTPUT]"), "LEN(1)")
	// The pattern holds, once there is one, and is no variable.
	wantRan(t, ask(" X = 'b'", " X := ['c']", " 'abc' ? [*X . Y]", " X = 'a'", " 'abc' ? [*X . Z]"), `end 23 [1 1 1 1 1] [] X="a" Y="c" Z="c"`)
	wantRan(t, ask(" X := [LEN(1)]", " Y = X & '.'"), `end 2 [1 1] [] Y="."`)
	// Neither a line comes in nor is one told by calling INPUT or OUTPUT: they have nothing.
	wantRan(t, ask(" OUTPUT = 'x'", " 'abc' ? [*INPUT . X *OUTPUT . Y 'a' . Z] :F(END)", " W = INPUT").in("b"), `end 12 [1 1 1] ["x"] W="b" Z="a"`)
	wantTold(t, ask(" INPUT := ['b']", " OUTPUT := ['c']", " 'abc' ? [*INPUT *OUTPUT] :F(END)", " OUTPUT = INPUT").in("line"), "line")
	// Items are no variables.
	wantTold(t, ask(" X<''> = 'b'", " X<1> = 'c'", " 'abc' ? [*X . OUTPUT]"), "")
	// What variables have when the match begins: what is given within it comes behind it.
	wantRan(t, ask(" X = 'a'", " 'ab' ? [LEN(1) $ Y *Y . Z]"), `end 8 [1 1] [] X="a" Y="a"`)
	wantTold(t, ask(" X = 'a'", " 'abab' ? ['b' $ X *X . OUTPUT]"), "a")
}

// Rules call others in turn: those by StRule, of which any number may call one another.
func TestL6RulesInTurn(t *testing.T) {
	wantTold(t, ask(" A := [*B 'x' | *C]", " B := [*D]", " C := ['c' *E]", " D = 'd'", " E = 'e'", " '-dx-ce' ? [*A . OUTPUT '-' *A . OUTPUT]"), "dx", "ce")
	wantTold(t, ask(" P := [('(' *P ')' | '')]", " '((()))' ? [POS(0) *P . OUTPUT RPOS(0)]", " '((())' ? [POS(0) *P . OUTPUT RPOS(0)]"), "((()))")
	wantTold(t, ask(" A := ['a' *B | 'x']", " B := ['b' *A | 'y']", " '-ababx' ? [*A . OUTPUT]"), "ababx")
	// A variable's text calls nobody, and a pattern that nobody calls is none of the rules.
	wantTold(t, ask(" A = '*B'", " B := [ABORT]", " 'x*B' ? [*A . OUTPUT]"), "*B")
	wantTold(t, ask(" A := [*B]", " 'ab' ? ['b' . OUTPUT]"), "b")
	// Calls in all sorts of nodes, below one another.
	wantTold(t, ask(" A := [ARBNO(*B $ X) @Y]", " B := [(*C . Z | *D)]", " C = 'c'", " D = 'd'", " '.cddc.' ? ['.' *A . OUTPUT '.']", " OUTPUT = X & Y & Z"), "cddc", "c5c")
}

// calls are so many names' calls in one pattern, as alternatives.
func calls(from, n int) string {
	var out []string
	for i := range n {
		out = append(out, fmt.Sprintf("*V%d", from+i))
	}
	return strings.Join(out, " | ")
}

func TestL6MaxRules(t *testing.T) {
	told := func(n int, lines ...string) {
		t.Helper()
		q := ask(append(lines, " OUTPUT = 'failed'")...)
		if n <= api.MaxRules {
			wantTold(t, q, "found")
		} else {
			wantTold(t, q, "failed")
		}
	}
	for _, n := range []int{1, api.MaxRules - 1, api.MaxRules, api.MaxRules + 1, api.MaxRules + 2, 200} {
		told(n, " V0 = 'found'", " V1 = 'x'", " 'found' ? [("+calls(0, n)+") . OUTPUT] :S(END)")
		told(n, " V0 = 'found'", " 'found' ? [(*V0 | "+calls(0, n)+" | *V0) . OUTPUT] :S(END)") // each counts once
	}
	// Those that patterns call count, too; those that call one another count once.
	for _, n := range []int{60, 61, 62, 63, 64} {
		told(n+2, " V0 = 'found'", " A := ["+calls(0, n)+" | *B]", " B := ["+calls(0, n/2)+" | *A | *B]", " 'found' ? [*A . OUTPUT] :S(END)")
		told(n+2, " V0 = 'found'", " A := [*B | *A]", " B := ["+calls(0, n)+"]", " 'found' ? [*B . OUTPUT | *A . OUTPUT] :S(END)")
		told(n, " V0 = 'found'", " A := ["+calls(100, 50)+"]", " B := [*A]", " 'found' ? [("+calls(0, n)+") . OUTPUT] :S(END)") // A and B are not called
	}
	// A chain of patterns, each of which calls the next one.
	for _, n := range []int{63, 64, 65} {
		lines := []string{" P1 = 'found'"}
		for i := 2; i <= n; i++ {
			lines = append(lines, fmt.Sprintf(" P%d := [*P%d]", i, i-1))
		}
		told(n, append(lines, fmt.Sprintf(" 'found' ? [*P%d . OUTPUT] :S(END)", n))...)
	}
	// So it is even if none of them would be come to, or there is no step left for the match.
	wantRan(t, ask(" 'a' ? ['a' | "+calls(0, 64)+"] :S(END)", " Y = 1"), `end 3 [1 0] []`)
	wantRan(t, ask(" 'a' ? ['a' | "+calls(0, 65)+"] :S(END)", " Y = 1"), `end 2 [1 1] [] Y="1"`)
	wantRan(t, ask(" 'a' ? ["+calls(0, 65)+"]").within(1), `end 1 [1] []`)
	wantRan(t, ask(" 'a' ? ["+calls(0, 64)+"]").within(1), `limit 1 [1] []`)
	// Nothing is come to then, and nothing is given; of StReplace the place stays, and what it is given is not worked out.
	wantRan(t, ask(" 'a' ? [LEN(0) $ X ("+calls(0, 65)+")] :S(END)", " Y = 1"), `end 2 [1 1] [] Y="1"`)
	wantRan(t, helped(" Z = 'abc'", " Z ? [LEN(0) $ X ("+calls(0, 65)+")] = T(1) :S(END)", " Y = 1"), `end 4 [1 1 1 1 0 0 0 0 0] [] Y="1" Z="abc"`)
	wantRan(t, ask(" INPUT ? ["+calls(0, 65)+"] :S(END)", " Y = INPUT").in("a", "b"), `end 2 [1 1] [] Y="b"`)
}

// At ErrFuel the run ends: nothing is given, and nothing else is done.
func TestL6Fuel(t *testing.T) {
	wantRan(t, ask(" X = 'aaaa'", " X ? [LEN(1) $ OUTPUT ARB ARB ARB 'b'] = INPUT :S(END)", " Y = 1").in("a").within(50), `limit 50 [1 1 0] [] X="aaaa"`)
	wantRan(t, helped(" 'aaaa' ? [LEN(1) $ OUTPUT LEN(1) . OUTPUT] :S(END)").within(3), `limit 3 [1 0 0 0 0 0 0] []`)
	wantRan(t, ask(" DEFINE F(A) F", " A = 'x'", " OUTPUT = F('y') & F('z')", " OUTPUT = 'never'", "F 'aaa' ? [ARB ARB ARB 'b'] :S(RETURN)F(RETURN)").within(20), `limit 20 [1 1 1 0 1] [] A="y"`)
}

func TestL6Replace(t *testing.T) {
	wantRan(t, ask(" X = 'banana'", " X ? ['an'] = '<' & 1 & '>' :F(END)", " Y = 1"), `end 5 [1 1 1] [] X="b<1>ana" Y="1"`)
	wantRan(t, ask(" X = 'banana'", " X ? ['x'] = '.' :S(END)", " Y = 1"), `end 10 [1 1 1] [] X="banana" Y="1"`)
	wantRan(t, ask(" X = 'banana'", " X ? [REM] = '' :F(END)", " Y = 1"), `end 4 [1 1 1] [] Y="1"`)
	wantRan(t, ask(" X = 'ab'", " X ? ['a'] = ''", " X ? [''] = 'c'", " X ? [RPOS(0)] = 'd'"), `end 9 [1 1 1 1] [] X="cbd"`)
	wantRan(t, ask(" X ? [''] = 'a'", " Y<1> ? [''] = 'b'"), `end 4 [1 1] [] X="a" Y<"1">="b"`)
	wantRan(t, ask(" X = 'k=v'", " X ? [BREAK('=') . K LEN(1) REM . V] = V & '=' & K"), `end 8 [1 1] [] K="k" V="v" X="v=k"`)
	wantRan(t, ask(" X = 'a b c'", "L X ? [' '] = '' :S(L)"), `end 13 [1 3] [] X="abc"`)
}

// Places of all kinds are read, and given what comes.
func TestL6ReplacePlaces(t *testing.T) {
	wantRan(t, ask(" T<'k'> = 'abc'", " T<'k'> ? ['b'] = 'x'"), `end 4 [1 1] [] T<"k">="axc"`)
	wantRan(t, ask(" X = 'abc'", " $'X' ? ['b'] = 'x'", " Y = 'X'", " $Y ? ['c'] = Y"), `end 9 [1 1 1 1] [] X="axX" Y="X"`)
	// INPUT is read, but nothing can be given to it.
	wantRan(t, helped(" INPUT ? ['b' . X] = T('v') :S(END)", " Y = INPUT").in("abc", "d"), `end 9 [1 1 1 0 0 1 1 0] ["Tv"] X="b" Y="d"`)
	wantRan(t, helped(" $'INPUT' ? ['x'] = T('v') :S(END)", " Y = INPUT").in("abc", "d"), `end 7 [1 1 1 0 0 0 0 0] [] Y="d"`)
	wantRan(t, helped(" INPUT ? [''] = T('v') :S(END)", " Y = 1"), `end 3 [1 1 1 0 0 0 0 0] [] Y="1"`)
	// OUTPUT has nothing, and what it is given is told.
	wantRan(t, helped(" OUTPUT = 'abc'", " OUTPUT ? ['b'] = T('v') :S(END)", " OUTPUT ? [@X] = T('v') :F(END)"), `end 8 [1 1 1 1 0 0 1 1 0] ["abc" "Tv" "v"] X="0"`)
	// Items of these names are items.
	wantRan(t, ask(" INPUT<1> = 'abc'", " INPUT<1> ? ['b'] = INPUT", " OUTPUT<1> = 'abc'", " OUTPUT<1> ? ['b'] = 'x'").in("line"), `end 8 [1 1 1 1] [] INPUT<"1">="alinec" OUTPUT<"1">="axc"`)
}

// The place, reading it, the match, then what it is given.
func TestL6ReplaceOrder(t *testing.T) {
	wantTold(t, helped(" S<'k'> = 'abc'", " S<T('k')> ? ['b' $ OUTPUT] = T('v')", " OUTPUT = S<'k'>"), "Tk", "b", "Tv", "avc")
	wantTold(t, helped(" S<'k'> = 'abc'", " S<T('k')> ? ['b' . OUTPUT] = T('v')", " OUTPUT = S<'k'>"), "Tk", "b", "Tv", "avc")
	wantTold(t, helped(" S<'k'> = 'abc'", " S<NO()> ? ['' $ OUTPUT] = T('v')"), "no")
	wantTold(t, helped(" $T('x') ? ['' $ OUTPUT] = T('v')"), "Tx")
	wantTold(t, helped(" $T('') ? ['' $ OUTPUT] = T('v')"), "T")
	wantTold(t, helped(" $T('INPUT') ? ['' $ OUTPUT] = T('v')"), "TINPUT")
	wantTold(t, helped(" S<T('k')> ? ['x' | LEN(0) $ OUTPUT FAIL] = T('v')"), "Tk", "")
	wantTold(t, helped(" S<T('k')> ? [LEN(0) $ OUTPUT] = NO()", " OUTPUT = 'x' & S<'k'>"), "Tk", "", "no", "x")
	// Each part that fails makes the statement fail.
	for _, line := range []string{" S<1 / 0> ? [''] = 1", " $(1 / 0) ? [''] = 1", " $'x' ? [''] = 1", " $'' ? [''] = 1", " INPUT ? [''] = 1", " $'INPUT' ? [''] = 1", " S<'k'> ? ['x'] = 1", " S<'k'> ? [''] = 1 / 0", " S<'k'> ? [''] = INPUT"} {
		wantRan(t, ask(line+" :S(END)", " OUTPUT = 'failed'").within(9), fmt.Sprintf("end %d [1 1] [\"failed\"]", 2+strings.Count(line, "S<'k'>")))
	}
	// The text is the one that was read, and the place the one that it was, whatever was given since.
	wantRan(t, ask(" X = 'abc'", " X ? ['b' . X] = X & X"), `end 6 [1 1] [] X="abbc"`)
	wantRan(t, ask(" X = 'abc'", " X ? ['b' $ X] = X & '.'"), `end 6 [1 1] [] X="ab.c"`)
	wantRan(t, ask(" K = 'k'", " T<K> = 'abc'", " T<K> ? ['b' $ K] = K"), `end 7 [1 1 1] [] K="b" T<"k">="abc"`)
	wantRan(t, ask(" N = 'X'", " X = 'abc'", " $N ? ['b' . N] = N & N"), `end 7 [1 1 1] [] N="b" X="abbc"`)
	wantRan(t, ask(" DEFINE F() F", " X = 'abc'", " X ? ['b'] = F() :(END)", "F X = 'other'", " F = 'f' :(RETURN)"), `end 7 [1 1 1 1 1] [] X="afc"`)
	wantRan(t, ask(" X = INPUT & INPUT", " X ? ['b' . Y] = INPUT").in("a", "b", "c"), `end 6 [1 1] [] X="ac" Y="b"`)
}

// What becomes longer than a text can be is not given; what was given in the match stays.
func TestL6ReplaceTooLong(t *testing.T) {
	wantRan(t, ask(" X = DUPL('a', 65535)", " X ? [LEN(1) . Y] = 'bcd' :S(END)", " X ? [LEN(1)] = 'bc' :F(END)", " Z = 1"), `end 7 [1 1 1 1] [] X="bc".."aa":65536 Y="a" Z="1"`)
	wantRan(t, ask(" X = DUPL('a', 65536)", " $'X' ? [LEN(0)] = INPUT :S(END)", " Z = INPUT").in("b", "c"), `end 4 [1 1 1] [] X="aa".."aa":65536 Z="c"`)
}
