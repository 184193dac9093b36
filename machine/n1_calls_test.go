package machine_test

import (
	"fmt"
	"testing"
)

func TestN1Arguments(t *testing.T) {
	lines := func(call string) question {
		return ask(" DEFINE F(A,B)C,D F", " A = 'a'", " B = 'b'", " C = 'c'", " D = 'd'", " F = 'f'", " X = "+call, " OUTPUT = A & B & C & D & F & X :(END)", "F OUTPUT = '[' & A & '|' & B & '|' & C & '|' & D & '|' & F & ']'", " F = 'result'", " A = 1", " C = 2 :(RETURN)")
	}
	wantTold(t, lines("F()"), "[||||]", "abcdfresult")
	wantTold(t, lines("F('x')"), "[x||||]", "abcdfresult")
	wantTold(t, lines("F('x', 'y')"), "[x|y|||]", "abcdfresult")
	wantTold(t, lines("F('', 'y')"), "[|y|||]", "abcdfresult")
	wantTold(t, lines("F(B, A)"), "[b|a|||]", "abcdfresult")
	wantTold(t, lines("F(F, D & C)"), "[f|dc|||]", "abcdfresult")
	wantTold(t, lines("F(F())"), "[||||]", "[result||||]", "abcdfresult")
	wantTold(t, lines("F(1, F(2, F(3)))"), "[3||||]", "[2|result|||]", "[1|result|||]", "abcdfresult")
	wantTold(t, lines("F(F(1), F(2))"), "[1||||]", "[2||||]", "[result|result|||]", "abcdfresult")
	wantTold(t, lines("'(' & F(1) & ',' & F(2) & ')'"), "[1||||]", "[2||||]", "abcdf(result,result)")
	wantTold(t, lines("REPLACE(F(1), SUBSTR(F(2), 1, 1), 'R')"), "[1||||]", "[2||||]", "abcdfResult")
	wantTold(t, ask(" DEFINE F(A,B,C,D,E,G,H,I)J,K,L,M,N,O,P,Q F", " OUTPUT = F(1, 2, 3, 4, 5, 6, 7, 8) & A & I & J & Q & F :(END)", "F OUTPUT = A & B & C & D & E & G & H & I & J & Q & F", " Q = 9", " F = I & A & Q :(RETURN)"), "12345678", "819")
}

func TestN1Return(t *testing.T) {
	lines := func(how string) question {
		return ask(" DEFINE F(A)B F", " A = 'a'", " B = 'b'", " F = 'f'", " X = 'x'", " X = '[' & F('b') & ']' :F(NO)", " OUTPUT = X & A & B & F :(END)", "NO OUTPUT = 'failed' & X & A & B & F :(END)", "F F = 'has' & A", " B = 'c'", how)
	}
	wantTold(t, lines(" :(RETURN)"), "[hasb]abf")
	wantTold(t, lines(" :(FRETURN)"), "failedxabf")
	wantTold(t, lines(" EQ(1, 1) :S(RETURN)F(FRETURN)"), "[hasb]abf")
	wantTold(t, lines(" EQ(1, 2) :S(RETURN)F(FRETURN)"), "failedxabf")
	wantTold(t, lines(" EQ(1, 2) :F(RETURN)"), "[hasb]abf")
	wantTold(t, lines(" EQ(1, 1) :S(FRETURN)"), "failedxabf")
	wantTold(t, lines(" 'a' & ('b' & 1 / 0) :F(RETURN)"), "[hasb]abf")
	wantTold(t, lines(" 'a' & ('b' & 1 / 0) :F(FRETURN)"), "failedxabf")
	// What was given in a call that fails stays given.
	wantTold(t, ask(" DEFINE F() F", " F() :S(END)", " OUTPUT = X & T<1> & INPUT :(END)", "F X = 'x' & INPUT", " T<1> = 't' :(FRETURN)").in("1", "2"), "x1t2")
	// What is not a function's own is the same within a call and outside of it; items are nobody's own.
	wantRan(t, ask(" DEFINE F(A) F", " X = 'x'", " A<1> = 'y'", " F(1)", " Y = X :(END)", "F X = X & A", " A<1> = A<1> & A :(RETURN)"), `end 7 [1 1 1 1 1 1 1] [] X="x1" Y="x1" A<"1">="y1"`)
}

// Calls stand in all parts of a statement.
func TestN1CallsAnywhere(t *testing.T) {
	wantRan(t, helped(" X<T(1)> = T(2)", " $T('Y') = T(3)", " T('abc') ? ['b' . Z]", " X<T(1)> ? ['2'] = T(4)", " T(5)", " Y = -T(6) & $T('Z') & X<T('1')> & SIZE(T('ab'))"),
		`end 36 [1 1 1 1 1 1 1 0 0 12 12 0] ["T1" "T2" "TY" "T3" "Tabc" "T1" "T4" "T5" "T6" "TZ" "T1" "Tab"] Y="-6b42" Z="b" X<"1">="4"`)
}

// A function is there, whether its StDefine has been come to or not; it may begin anywhere.
func TestN1Entry(t *testing.T) {
	wantRan(t, ask(" OUTPUT = F(2) :(END)", " DEFINE F(A) L", "L F = A + 1 :(RETURN)"), `end 2 [1 0 1] ["3"]`)
	wantRan(t, ask(" OUTPUT = F(2) :(END)", "L DEFINE F(A) L", " F = A + 1 :(RETURN)"), `end 3 [1 1 1] ["3"]`)
	wantRan(t, ask("L EQ(N, 1) :S(RETURN)", " N = 1", " F()", " OUTPUT = 'back'", " DEFINE F() L"), `end 6 [2 1 1 1 1] ["back"] N="1"`)
	wantRan(t, ask(" DEFINE F(A) L", " DEFINE G(A) L", " OUTPUT = F(1) & G(2) :(END)", "L F = 'f' & A", " G = 'g' & A :(RETURN)"), `end 7 [1 1 1 2 2] ["f1g2"] F="f2" G="g1"`)
}

// Each call comes back to where it was called from.
func TestN1CallsWithinOneAnother(t *testing.T) {
	wantTold(t, ask(" DEFINE F(A) F", " DEFINE G(A) G", " DEFINE H(A) H", " OUTPUT = F(1) & H(2)", " OUTPUT = A & F & G & H :(END)",
		"F F = 'F' & A & G(A & 'f') & A :(RETURN)", "G G = 'G' & A & H(A & 'g') & A :(RETURN)", "H H = 'H' & A :(RETURN)"), "F1G1fH1fg1f1H2", "")
	wantTold(t, ask(" DEFINE F(A) F", " DEFINE G(A) G", " OUTPUT = F(1) :F(NO)", "NO OUTPUT = 'no' :(END)", "F 'x' & G(A) :S(RETURN)", " F = 'G failed' & A :(RETURN)", "G A = 7 :(FRETURN)"), "G failed1", "no")
	wantTold(t, ask(" DEFINE F(A) F", " DEFINE G(A) G", " OUTPUT = 'x' & F(1) :F(NO)", " OUTPUT = 'yes'", "NO OUTPUT = 'no' & A :(END)", "F F = 'y' & G(A) :S(RETURN)F(FRETURN)", "G A = 7 :(FRETURN)"), "no")
	wantTold(t, ask(" DEFINE FACT(N) FACT", " OUTPUT = FACT(20)", " OUTPUT = FACT(21) :(END)", "FACT LE(N, 1) :S(ONE)", " FACT = N * FACT(N - 1) :S(RETURN)F(FRETURN)", "ONE FACT = 1 :(RETURN)"), "2432902008176640000")
	wantTold(t, ask(" DEFINE FIB(N) FIB", " OUTPUT = FIB(12) & N :(END)", "FIB LT(N, 2) :S(SELF)", " FIB = FIB(N - 1) + FIB(N - 2) :(RETURN)", "SELF FIB = N :(RETURN)"), "144")
	wantTold(t, ask(" DEFINE A(M,N) A", " OUTPUT = A(2, 3) :(END)", "A EQ(M, 0) :F(B)", " A = N + 1 :(RETURN)", "B EQ(N, 0) :F(C)", " A = A(M - 1, 1) :(RETURN)", "C A = A(M - 1, A(M, N - 1)) :(RETURN)"), "9")
	wantTold(t, ask(" DEFINE REV(X)Y REV", " OUTPUT = REV('abcdef') :(END)", "REV X ? [POS(0) LEN(1) . Y] = '' :F(RETURN)", " REV = REV(X) & Y :(RETURN)"), "fedcba")
}

func TestN1MaxCalls(t *testing.T) {
	down := func(n int) question {
		return ask(" DEFINE F(N) F", fmt.Sprintf(" OUTPUT = '(' & F(%d) & ')' :F(NO)", n), " OUTPUT = 'back' & N & F :(END)", "NO OUTPUT = 'too deep' & N & F :(END)", "F LE(N, 1) :S(RETURN)", " F = F(N - 1) + 1 :S(RETURN)F(FRETURN)")
	}
	wantTold(t, down(1), "()", "back")
	wantTold(t, down(99), "(98)", "back")
	wantTold(t, down(100), "(99)", "back")
	wantTold(t, down(101), "too deep")
	wantTold(t, down(500), "too deep")
	// The hundredth call is the last one, and it may go on.
	wantRan(t, ask(" DEFINE F(N) F", " F(1) :(END)", "F D = N", " 'x' & F(N + 1) :S(RETURN)", " F<N> = 'failed' :(RETURN)"), `end 203 [1 1 100 100 1] [] D="100" F<"100">="failed"`)
	// Those that are closed are not open: many may come one behind the other.
	for _, how := range []string{"RETURN", "FRETURN"} {
		wantTold(t, ask(" DEFINE F(N) F", "L M = M + 1", " F(1)", " LT(M, 150) :S(L)", " OUTPUT = 'all' & F :(END)", "F N = 2", " M = M + 0 :("+how+")"), "all")
	}
	nested := "1"
	for range 150 {
		nested = "F(" + nested + ")"
	}
	wantTold(t, ask(" DEFINE F(N) F", " OUTPUT = "+nested+" :(END)", "F F = N + 1 :(RETURN)"), "151")
}

// Programs as one writes them.
func TestN1Programs(t *testing.T) {
	roman := ask(" DEFINE ROMAN(N)T ROMAN", "LOOP X = INPUT :F(END)", " OUTPUT = ROMAN(X) :(LOOP)", "ROMAN N ? [RPOS(1) LEN(1) . T] = '' :F(RETURN)",
		" '0,1I,2II,3III,4IV,5V,6VI,7VII,8VIII,9IX,' ? [*T BREAK(',') . T] :F(FRETURN)", " ROMAN = REPLACE(ROMAN(N), 'IVXLCDM', 'XLCDM**') & T :S(RETURN)F(FRETURN)")
	wantTold(t, roman.in("1994", "3999", "1", "40", "x"), "MCMXCIV", "MMMCMXCIX", "I", "XL")
	sort := ask("LOOP X = INPUT :F(PRINT)", " N = N + 1", " I = N", "SHIFT LE(I, 1) :S(PUT)", " J = I - 1", " LGT(T<J>, X) :F(PUT)", " T<I> = T<J>", " I = J :(SHIFT)", "PUT T<I> = X :(LOOP)", "PRINT K = K + 1", " LE(K, N) :F(END)", " OUTPUT = T<K> :(PRINT)")
	wantTold(t, sort.in("b", "", "a", "ab", "B", "b"), "", "B", "a", "ab", "b", "b")
	hanoi := ask(" DEFINE MOVE(N,A,B,C) MOVE", " N = INPUT :F(END)", " MOVE(N, 'A', 'C', 'B') :(END)", "MOVE GT(N, 0) :F(RETURN)", " MOVE(N - 1, A, C, B) :F(FRETURN)", " OUTPUT = A & ' to ' & B", " MOVE(N - 1, C, B, A) :S(RETURN)F(FRETURN)")
	wantTold(t, hanoi.in("3"), "A to C", "A to B", "C to B", "A to C", "B to A", "B to C", "A to C")
	wantTold(t, hanoi.in("100"))
	wantRan(t, ask(" OUTPUT = 'a' & 2 + 3"), `end 1 [1] ["a5"]`)
}
