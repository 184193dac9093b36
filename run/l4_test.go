package run_test

import (
	"fmt"
	"slices"
	"strings"
	"testing"

	"scanfail/api"
)

func TestL4Arguments(t *testing.T) {
	lines := func(call string) question {
		return ask(" DEFINE F(A,B)C,D F", " A = 'a'", " B = 'b'", " C = 'c'", " D = 'd'", " F = 'f'", " X = "+call, " OUTPUT = A & B & C & D & F & X :(END)", "F OUTPUT = '[' & A & '|' & B & '|' & C & '|' & D & '|' & F & ']'", " F = 'result'", " A = 1", " C = 2 :(RETURN)")
	}
	wantTold(t, lines("F()"), "[||||]", "abcdfresult")
	wantTold(t, lines("F('x')"), "[x||||]", "abcdfresult")
	wantTold(t, lines("F('x', 'y')"), "[x|y|||]", "abcdfresult")
	wantTold(t, lines("F('', 'y')"), "[|y|||]", "abcdfresult")
	wantTold(t, lines("F(B, A)"), "[b|a|||]", "abcdfresult")
	wantTold(t, lines("F(F, D & C)"), "[f|dc|||]", "abcdfresult")
	wantTold(t, lines("F(F())"), "[||||]", "[result||||]", "abcdfresult")
	wantTold(t, lines("F(1, F(2, F(3)))"), "[3||||]", "[2|result|||]", "[1|result|||]", "abcdfresult")
}

// As many Params and Locals as can be; none of them; the function's own name is a variable, too.
func TestL4OwnVariables(t *testing.T) {
	wantTold(t, ask(" DEFINE F(A,B,C,D,E,G,H,I)J,K,L,M,N,O,P,Q F", " OUTPUT = F(1, 2, 3, 4, 5, 6, 7, 8) & A & I & J & Q & F :(END)", "F OUTPUT = A & B & C & D & E & G & H & I & J & Q & F", " Q = 9", " F = I & A & Q :(RETURN)"), "12345678", "819")
	wantTold(t, ask(" DEFINE F() G", " F = 'old'", " OUTPUT = '[' & F() & ']' & F :(END)", "G :(RETURN)"), "[]old")
	wantTold(t, ask(" DEFINE F() G", " OUTPUT = F() & F :(END)", "G F = F & 'a'", " F = F & 'b' :(RETURN)"), "ab")
	// Names that are labels, or the language's functions, are variables of their own, too.
	wantTold(t, ask(" DEFINE SIZES(SIZE)END,RETURN,F F", " SIZE = 'old'", " OUTPUT = SIZES('abc') & SIZE :(END)", "F SIZES = SIZE(SIZE) & SIZE & END & RETURN & F :(RETURN)"), "3abcold")
}

// What is not a function's own is the same within a call and outside of it.
func TestL4OtherVariables(t *testing.T) {
	wantRan(t, ask(" DEFINE F(A) F", " X = 'x'", " F(1)", " Y = X & T<1> :(END)", "F X = X & A", " T<1> = 't'", " T<2> = A :(RETURN)"), `end 7 [1 1 1 1 1 1 1] [] X="x1" Y="x1t" T<"1">="t" T<"2">="1"`)
	// Items of such a name are nobody's own.
	wantRan(t, ask(" DEFINE F(A) F", " A<1> = 'x'", " F(7) :(END)", "F A<1> = A<1> & A", " F<1> = A :(RETURN)"), `end 5 [1 1 1 1 1] [] A<"1">="x7" F<"1">="7"`)
	// Rules, too, stay.
	wantTold(t, ask(" DEFINE F() F", " P := ['a']", " F()", " 'abc' ? [*P . X]", " OUTPUT = X :(END)", "F P := ['b'] :(RETURN)"), "b")
}

// A function is there, whether its StDefine has been come to or not.
func TestL4DefineIsNotComeTo(t *testing.T) {
	wantRan(t, ask(" OUTPUT = F(2) :(END)", " DEFINE F(A) L", "L F = A + 1 :(RETURN)"), `end 2 [1 0 1] ["3"]`)
	wantRan(t, ask(" OUTPUT = F(2) :(END)", "L DEFINE F(A) L", " F = A + 1 :(RETURN)"), `end 3 [1 1 1] ["3"]`)
	wantRan(t, ask("L EQ(N, 1) :S(RETURN)", " N = 1", " F()", " OUTPUT = 'back'", " DEFINE F() L"), `end 6 [2 1 1 1 1] ["back"] N="1"`)
}

func TestL4Return(t *testing.T) {
	lines := func(how string) question {
		return ask(" DEFINE F(A) F", " A = 'a'", " F = 'f'", " X = 'x'", " X = '[' & F('b') & ']' :F(NO)", " OUTPUT = X & A & F :(END)", "NO OUTPUT = 'failed' & X & A & F :(END)", "F F = 'has' & A", how)
	}
	wantTold(t, lines(" :(RETURN)"), "[hasb]af")
	wantTold(t, lines(" :(FRETURN)"), "failedxaf")
	wantTold(t, lines(" EQ(1, 1) :S(RETURN)F(FRETURN)"), "[hasb]af")
	wantTold(t, lines(" EQ(1, 2) :S(RETURN)F(FRETURN)"), "failedxaf")
	wantTold(t, lines(" EQ(1, 2) :F(RETURN)"), "[hasb]af")
	wantTold(t, lines(" EQ(1, 1) :S(FRETURN)"), "failedxaf")
	// What was given in a call that fails stays given.
	wantTold(t, ask(" DEFINE F() F", " F() :S(END)", " OUTPUT = X & T<1> & INPUT :(END)", "F X = 'x' & INPUT", " T<1> = 't' :(FRETURN)").in("1", "2"), "x1t2")
}

// Each call comes back to where it was called from.
func TestL4WithinOneAnother(t *testing.T) {
	wantTold(t, ask(" DEFINE F(A) F", " DEFINE G(A) G", " DEFINE H(A) H", " OUTPUT = F(1) & H(2)", " OUTPUT = A & F & G & H :(END)",
		"F F = 'F' & A & G(A & 'f') & A :(RETURN)", "G G = 'G' & A & H(A & 'g') & A :(RETURN)", "H H = 'H' & A :(RETURN)"), "F1G1fH1fg1f1H2", "")
	wantTold(t, ask(" DEFINE F(A) F", " DEFINE G(A) G", " OUTPUT = F(1) :F(NO)", "NO OUTPUT = 'no' :(END)", "F G(A) :S(RETURN)", " F = 'G failed' & A :(RETURN)", "G A = 7 :(FRETURN)"), "G failed1", "no")
	wantTold(t, ask(" DEFINE FACT(N) FACT", " OUTPUT = FACT(20)", " OUTPUT = FACT(21) :(END)", "FACT LE(N, 1) :S(ONE)", " FACT = N * FACT(N - 1) :S(RETURN)F(FRETURN)", "ONE FACT = 1 :(RETURN)"), "2432902008176640000")
	wantTold(t, ask(" DEFINE FIB(N) FIB", " OUTPUT = FIB(12) & N :(END)", "FIB LT(N, 2) :S(SELF)", " FIB = FIB(N - 1) + FIB(N - 2) :(RETURN)", "SELF FIB = N :(RETURN)"), "144")
	wantTold(t, ask(" DEFINE A(M,N) A", " OUTPUT = A(2, 3) :(END)", "A EQ(M, 0) :F(B)", " A = N + 1 :(RETURN)", "B EQ(N, 0) :F(C)", " A = A(M - 1, 1) :(RETURN)", "C A = A(M - 1, A(M, N - 1)) :(RETURN)"), "9")
	wantTold(t, ask(" DEFINE EVEN(N) EVEN", " DEFINE ODD(N) ODD", " OUTPUT = EVEN(9) & EVEN(10) :(END)", "EVEN EVEN = 'yes'", " EQ(N, 0) :S(RETURN)", " EVEN = ODD(N - 1) :(RETURN)", "ODD ODD = 'no'", " EQ(N, 0) :S(RETURN)", " ODD = EVEN(N - 1) :(RETURN)"), "noyes")
}

// Calls stand in all parts of a statement.
func TestL4Anywhere(t *testing.T) {
	wantRan(t, helped(" X<T(1)> = T(2)", " $T('Y') = T(3)", " T('abc') ? ['b' . Z]", " X<T(1)> ? ['2'] = T(4)", " T(5)"),
		`end 27 [1 1 1 1 1 1 0 0 8 8 0] ["T1" "T2" "TY" "T3" "Tabc" "T1" "T4" "T5"] Y="3" Z="b" X<"1">="4"`)
}

func TestL4MaxCalls(t *testing.T) {
	down := func(n int) question {
		return ask(" DEFINE F(N) F", fmt.Sprintf(" OUTPUT = F(%d) :F(NO)", n), " OUTPUT = 'back' & N & F :(END)", "NO OUTPUT = 'too deep' & N & F :(END)", "F LE(N, 1) :S(RETURN)", " F = F(N - 1) + 1 :S(RETURN)F(FRETURN)")
	}
	wantTold(t, down(1), "", "back")
	wantTold(t, down(99), "98", "back")
	wantTold(t, down(100), "99", "back")
	wantTold(t, down(101), "too deep")
	wantTold(t, down(500), "too deep")
	// How deep it came is told: the hundredth call is the last one, and it may go on.
	wantRan(t, ask(" DEFINE F(N) F", " F(1) :(END)", "F D = N", " F(N + 1) :S(RETURN)", " F<N> = 'failed' :(RETURN)"), `end 203 [1 1 100 100 1] [] D="100" F<"100">="failed"`)
	// Those that are closed are not open: many may come one behind the other.
	wantTold(t, ask(" DEFINE F(N) F", "L N = N + 1", " F(1) :F(NO)", " F(1) :F(NO)", " LT(N, 150) :S(L)", " OUTPUT = 'all' :(END)", "NO OUTPUT = 'no' :(END)", "F N = 2 :(RETURN)"), "all")
	wantTold(t, ask(" DEFINE F(N) F", "L N = N + 1", " F(1) :S(NO)", " LT(N, 150) :S(L)", " OUTPUT = 'all' :(END)", "NO OUTPUT = 'no' :(END)", "F N = 2 :(FRETURN)"), "all")
	// A call that is not opened changes nothing, but its arguments are worked out; the language's own functions are none.
	wantTold(t, ask(" DEFINE F(N) F", " DEFINE G(X) G", " F(1)", " OUTPUT = N & X & G & INPUT :(END)", "F EQ(N, 100) :S(LAST)", " F(N + 1) :(RETURN)",
		"LAST X = 'x'", " G = 'g'", " G(INPUT) :S(RETURN)", " OUTPUT = SIZE('abc') & N & X & G", " NE(N, 0) :(RETURN)", "G OUTPUT = 'never'").in("a", "b"), "3100xg", "xgb")
	// Calls of several functions count together.
	wantTold(t, ask(" DEFINE F(N) F", " DEFINE G(N) G", " OUTPUT = F(100)", " OUTPUT = F(101)", " OUTPUT = G(100)", " OUTPUT = G(101) :(END)", "F F = 'f'", " LE(N, 1) :S(RETURN)", " F = G(N - 1) :S(RETURN)F(FRETURN)", "G G = 'g'", " LE(N, 1) :S(RETURN)", " G = F(N - 1) :S(RETURN)F(FRETURN)"), "g", "f")
}

// Arguments that are calls are closed ahead of the call that they are of.
func TestL4ArgumentsAreClosed(t *testing.T) {
	nested := "1"
	for range 150 {
		nested = "F(" + nested + ")"
	}
	wantTold(t, ask(" DEFINE F(N) F", " OUTPUT = "+nested+" :(END)", "F F = N + 1 :(RETURN)"), "151")
}

func TestL4End(t *testing.T) {
	wantRan(t, ask(" DEFINE F(A)B F", " A = 'a'", " B = 'b'", " F = 'f'", " X = F(1)", " OUTPUT = 'never'", "F B = 2", " F = 3 :(END)"), `end 7 [1 1 1 1 1 0 1 1] [] A="1" B="2" F="3"`)
	wantRan(t, ask(" DEFINE F(A)B F", " A = 'a'", " B = 'b'", " F = 'f'", " X = F(1) & F(2)", " OUTPUT = 'never' :(END)", "F B = 2", " F = 3"), `end 7 [1 1 1 1 1 0 1 1] [] A="1" B="2" F="3"`)
	wantRan(t, ask(" DEFINE F(A) F", " DEFINE G(A) G", " X = F(1) :F(NO)", " OUTPUT = 'never'", "NO OUTPUT = 'never'", "F F = G(2) :S(NO)F(NO)", "G A = 3 :(END)"), `end 5 [1 1 1 0 0 1 1] [] A="3"`)
	wantRan(t, ask(" DEFINE F() F", " X<F()> = 1", " OUTPUT = 'never'", "F OUTPUT = 'last'"), `end 3 [1 1 0 1] ["last"]`)
	wantRan(t, ask(" DEFINE F() F", " 'a' ? ['a' . X] :(END)", "F").within(9), `end 4 [1 1 0] [] X="a"`)
	wantRan(t, ask(" DEFINE F() F", " X = 'a'", " X ? ['a' $ Y] = F()", "F"), `end 6 [1 1 1 1] [] X="a" Y="a"`)
}

// A limit within a call ends all, and nothing comes back.
func TestL4Limit(t *testing.T) {
	q := ask(" DEFINE F(A) F", " A = 'a'", " X = F(1) :F(NO)", " OUTPUT = 'never'", "NO OUTPUT = 'never'", "F F = 2", " F = 3 :(RETURN)")
	wantRan(t, q.within(3), `limit 3 [1 1 1 0 0 0 0] [] A="1"`)
	wantRan(t, q.within(4), `limit 4 [1 1 1 0 0 1 0] [] A="1" F="2"`)
	wantRan(t, q.within(5), `limit 5 [1 1 1 0 0 1 1] [] A="a" X="3"`)
	wantRan(t, q.within(6), `limit 6 [1 1 1 1 0 1 1] ["never"] A="a" X="3"`)
}

// wantFull: behind keeping, by which MaxStore bytes are kept, the run ends so; these variables have so much of a byte, all others of A0 to A15 what they had.
func wantFull(t *testing.T, lines []string, how int, other string) {
	t.Helper()
	ran, comings := answer(t, ask(slices.Concat(keeping(), lines)...))
	var got []string
	for _, g := range ran.Vars {
		if g.Text != strings.Repeat("a", 65536) || g.Name[0] != 'A' {
			got = append(got, fmt.Sprintf("%s=%c%d", g.Name, g.Text[0], len(g.Text)))
		}
	}
	for i := range 16 {
		name := fmt.Sprint("A", i)
		if !slices.ContainsFunc(ran.Vars, func(g api.Gift) bool { return g.Name == name }) {
			got = append(got, name+"=")
		}
	}
	slices.Sort(got)
	if s := strings.Join(got, " "); ran.How != how || s != other || len(ran.Output) > 0 {
		t.Errorf("%q: %s, other %q; want how %d, other %q", lines, show(ran, comings), s, how, other)
	}
}

// Params are given ahead of Locals, these ahead of Name: what each has leaves its room only then.
func TestL4NoRoomAhead(t *testing.T) {
	for _, c := range []struct{ define, call, other string }{
		{"F(B)", "F('b')", ""},
		{"F(B,A0)", "F('b')", ""},
		{"F(A0,B)", "F(DUPL('c', 65535), 'bb')", "A0=c65535"},
		{"F(A0,B,C,A1)", "F('', DUPL('b', 65536), 'c')", "A0= B=b65536"},
		{"F(B)A0", "F('b')", ""},
		{"A0(B)", "A0('b')", ""},
		{"A0(B)A1", "A0('b')", ""},
	} {
		wantFull(t, []string{" DEFINE " + c.define + " F", " " + c.call + " :S(NO)", "NO OUTPUT = 'never' :(END)", "F OUTPUT = 'never' :(RETURN)"}, api.RanMuch, c.other)
	}
}

func TestL4RoomAhead(t *testing.T) {
	for _, c := range []struct{ define, call, body string }{
		{"F(A0,B)", "F('', DUPL('b', 65536))", "B = ''"},
		{"F(A0,B)A1", "F(DUPL('c', 65535), 'b')", "A1 = ''"},
		{"F(A0)B", "F()", "B = DUPL('b', 65536)"},
		{"A0()B", "A0()", "B = DUPL('b', 65536)"},
	} {
		l := []string{" DEFINE " + c.define + " F", " " + c.call + " :S(END)F(NO)", "NO OUTPUT = 'never' :(END)", "F " + c.body, " B = ''", " F = '' :(RETURN)"}
		wantFull(t, l, api.RanEnd, "")
		l[5] = " F = '' :(FRETURN)"
		l[1] = " " + c.call + " :S(NO)F(END)"
		wantFull(t, l, api.RanEnd, "")
	}
}

// They are given back in the same order, at RETURN and at FRETURN.
func TestL4NoRoomBehind(t *testing.T) {
	for _, c := range []struct{ define, call, body, other string }{
		{"F(A0)", "F()", " B = 'b'", "A0= B=b1"},
		{"F()A0", "F()", " B = 'b'", "A0= B=b1"},
		{"A0()", "A0()", " B = 'b'", "A0= B=b1"},
		{"F(A0,A1)", "F()", " B = DUPL('b', 65537 - 1)", "A1= B=b65536"},
		{"F(A0)A1", "F()", " B = DUPL('b', 65537 - 1)", "A1= B=b65536"},
		{"F(A0,B)", "F('', DUPL('b', 65536))", "", "A0= B=b65536"},
		{"F(A0)B", "F('')", " B = DUPL('b', 65536)", "A0= B=b65536"},
		{"B(A0)", "B('')", " B = DUPL('b', 65536)", "A0= B=b65536"},
		{"B()A0", "B()", " B = DUPL('b', 65536)", "A0= B=b65536"},
		{"A0(A1)", "A0()", " A0 = DUPL('c', 65536)", ""}, // there is room
		{"A0(A1)", "A0()", " B = DUPL('b', 65536)", "A0= B=b65536"},
		{"A0()A1", "A0()", " A0 = DUPL('c', 65536)", ""}, // there is room
		{"A0()A1", "A0()", " $'B' = DUPL('c', 65536)", "A0= B=c65536"},
	} {
		for _, how := range []string{" :(RETURN)", " :(FRETURN)"} {
			lines := []string{" DEFINE " + c.define + " F :(GO)", "F" + c.body, how, "GO " + c.call + " :(END)"}
			want := api.RanMuch
			if c.other == "" {
				want = api.RanEnd
			}
			wantFull(t, lines, want, c.other)
		}
	}
}

// Where giving ends the run nothing else is done: what is around the call neither.
func TestL4NoRoomNothingElse(t *testing.T) {
	wantFull(t, []string{" DEFINE F(A0) F :(GO)", "F B = 'b' :(RETURN)", "GO T<F()> = OUTPUT :S(NO)F(NO)", "NO OUTPUT = 'never'"}, api.RanMuch, "A0= B=b1")
	wantFull(t, []string{" DEFINE F(A0) F :(GO)", " DEFINE G(A1) G", "F B = 'b' :(RETURN)", "G F() :S(NO)F(NO)", "GO G(F('x') & 'y') :S(NO)F(NO)", "NO OUTPUT = 'never'"}, api.RanMuch, "A0=x1 B=b1")
	// Of the call around it nothing is given back.
	wantFull(t, []string{" DEFINE F(A0) F :(GO)", " DEFINE G(A1) G", "F B = DUPL('b', 65536)", " C = DUPL('c', 65535) :(RETURN)", "G F() :S(NO)F(NO)", "GO G('y') :S(NO)F(NO)", "NO OUTPUT = 'never'"}, api.RanMuch, "A0= A1=y1 B=b65536 C=c65535")
}
