package library_test

import (
	"slices"
	"strings"
	"testing"

	"scanfail/api"
	"scanfail/library"
)

// documented are the names and the lines of all programs, as the document has them.
var documented = []struct {
	name  string
	lines []string
}{
	{"binary", []string{
		"LOOP X = INPUT :F(END)",
		" OUTPUT = BASE(X, 2) :(LOOP)",
	}},
	{"brackets", []string{
		"LOOP X = INPUT :F(END)",
		" X ? [POS(0) (BAL | '') RPOS(0)] :F(NO)",
		" OUTPUT = 'yes' :(LOOP)",
		"NO OUTPUT = 'no' :(LOOP)",
	}},
	{"caesar", []string{
		"LOOP OUTPUT = REPLACE(INPUT, 'ABCDEFGHIJKLMNOPQRSTUVWXYZ', 'DEFGHIJKLMNOPQRSTUVWXYZABC') :S(LOOP)",
	}},
	{"cat", []string{
		"LOOP OUTPUT = INPUT :S(LOOP)",
	}},
	{"collatz", []string{
		" N = INPUT :F(END)",
		"LOOP GT(N, 0) :F(END)",
		" OUTPUT = N + 0",
		" EQ(N, 1) :S(END)",
		" EQ(N % 2, 0) :S(HALF)",
		" N = 3 * N + 1 :S(LOOP)F(END)",
		"HALF N = N / 2 :(LOOP)",
	}},
	{"count", []string{
		"LOOP X = INPUT :F(DONE)",
		" N = N + 1 :(LOOP)",
		"DONE OUTPUT = N + 0",
	}},
	{"digits", []string{
		"LOOP X = INPUT :F(END)",
		" S = 0",
		"NEXT X ? [ANY('0123456789') . D] = '' :F(TELL)",
		" S = S + D :(NEXT)",
		"TELL OUTPUT = S :(LOOP)",
	}},
	{"divisors", []string{
		" N = INPUT :F(END)",
		" I = 1",
		"LOOP LE(I, N) :F(END)",
		" EQ(N % I, 0) :F(NEXT)",
		" OUTPUT = I",
		"NEXT I = I + 1 :(LOOP)",
	}},
	{"euclid", []string{
		" A = INPUT :F(END)",
		" B = INPUT :F(END)",
		"LOOP EQ(B, 0) :S(DONE)",
		" C = REMDR(A, B) :F(END)",
		" A = B",
		" B = C :(LOOP)",
		"DONE OUTPUT = A + 0",
	}},
	{"factorial", []string{
		" DEFINE FACT(N) FACT",
		"LOOP X = INPUT :F(END)",
		" OUTPUT = FACT(X) :(LOOP)",
		"FACT LE(N, 1) :S(ONE)",
		" FACT = N * FACT(N - 1) :S(RETURN)F(FRETURN)",
		"ONE FACT = 1 :(RETURN)",
	}},
	{"fibonacci", []string{
		" N = INPUT :F(END)",
		" INTEGER(N) :F(END)",
		" B = 1",
		"LOOP LE(N, 0) :S(END)",
		" OUTPUT = A + 0",
		" C = A + B :F(END)",
		" A = B",
		" B = C",
		" N = N - 1 :(LOOP)",
	}},
	{"fields", []string{
		"LOOP X = INPUT :F(END)",
		"NEXT X ? [POS(0) BREAK(',') . F LEN(1)] = '' :F(LAST)",
		" OUTPUT = F :(NEXT)",
		"LAST OUTPUT = X :(LOOP)",
	}},
	{"hanoi", []string{
		" DEFINE MOVE(N,A,B,C) MOVE",
		" N = INPUT :F(END)",
		" MOVE(N, 'A', 'C', 'B') :(END)",
		"MOVE GT(N, 0) :F(RETURN)",
		" MOVE(N - 1, A, C, B) :F(FRETURN)",
		" OUTPUT = A & ' to ' & B",
		" MOVE(N - 1, C, B, A) :S(RETURN)F(FRETURN)",
	}},
	{"head", []string{
		" N = INPUT :F(END)",
		"LOOP GT(N, 0) :F(END)",
		" OUTPUT = INPUT :F(END)",
		" N = N - 1 :(LOOP)",
	}},
	{"longest", []string{
		"LOOP X = INPUT :F(DONE)",
		" GT(SIZE(X), SIZE(M)) :F(LOOP)",
		" M = X :(LOOP)",
		"DONE OUTPUT = M",
	}},
	{"mirror", []string{
		"LOOP X = INPUT :F(END)",
		" IDENT(X, REVERSE(X)) :F(LOOP)",
		" OUTPUT = X :(LOOP)",
	}},
	{"number", []string{
		"LOOP X = INPUT :F(END)",
		" N = N + 1",
		" OUTPUT = LPAD(N, 4, ' ') & ' ' & X :(LOOP)",
	}},
	{"pascal", []string{
		" N = INPUT :F(END)",
		"ROW LT(I, N) :F(END)",
		" J = I + 0",
		"SHIFT GT(J, 0) :F(TELL)",
		" T<J> = T<J> + T<J - 1>",
		" J = J - 1 :(SHIFT)",
		"TELL T<0> = 1",
		" X = 1",
		" J = 0",
		"MORE J = J + 1",
		" LE(J, I) :F(SAY)",
		" X = X & ' ' & T<J> :(MORE)",
		"SAY OUTPUT = X",
		" I = I + 1 :(ROW)",
	}},
	{"primes", []string{
		" N = INPUT :F(END)",
		" I = 1",
		"NEXT I = I + 1",
		" LE(I, N) :F(END)",
		" J = 2",
		"TRY GT(J * J, I) :S(PRIME)",
		" EQ(REMDR(I, J), 0) :S(NEXT)",
		" J = J + 1 :(TRY)",
		"PRIME OUTPUT = I :(NEXT)",
	}},
	{"range", []string{
		"LOOP X = INPUT :F(DONE)",
		" INTEGER(X) :F(LOOP)",
		" EQ(K, 0) :S(FIRST)",
		" LT(X, A) :F(MORE)",
		" A = X + 0",
		"MORE GT(X, B) :F(LOOP)",
		" B = X + 0 :(LOOP)",
		"FIRST A = X + 0",
		" B = A",
		" K = 1 :(LOOP)",
		"DONE EQ(K, 1) :F(END)",
		" OUTPUT = A & ' ' & B",
	}},
	{"reverse", []string{
		"LOOP OUTPUT = REVERSE(INPUT) :S(LOOP)",
	}},
	{"roman", []string{
		" DEFINE ROMAN(N)T ROMAN",
		"LOOP X = INPUT :F(END)",
		" OUTPUT = ROMAN(X) :(LOOP)",
		"ROMAN N ? [RPOS(1) LEN(1) . T] = '' :F(RETURN)",
		" '0,1I,2II,3III,4IV,5V,6VI,7VII,8VIII,9IX,' ? [*T BREAK(',') . T] :F(FRETURN)",
		" ROMAN = REPLACE(ROMAN(N), 'IVXLCDM', 'XLCDM**') & T :S(RETURN)F(FRETURN)",
	}},
	{"sort", []string{
		"LOOP X = INPUT :F(PRINT)",
		" N = N + 1",
		" I = N",
		"SHIFT LE(I, 1) :S(PUT)",
		" J = I - 1",
		" LGT(T<J>, X) :F(PUT)",
		" T<I> = T<J>",
		" I = J :(SHIFT)",
		"PUT T<I> = X :(LOOP)",
		"PRINT K = K + 1",
		" LE(K, N) :F(END)",
		" OUTPUT = T<K> :(PRINT)",
	}},
	{"squeeze", []string{
		"LOOP X = INPUT :F(END)",
		"MORE X ? ['  '] = ' ' :S(MORE)",
		" OUTPUT = X :(LOOP)",
	}},
	{"sum", []string{
		"LOOP X = INPUT :F(DONE)",
		" N = N + X :S(LOOP)",
		" OUTPUT = 'no: ' & X :(LOOP)",
		"DONE OUTPUT = N + 0",
	}},
	{"unique", []string{
		"LOOP X = INPUT :F(END)",
		" EQ(N, 0) :S(TELL)",
		" IDENT(X, L) :S(LOOP)",
		"TELL OUTPUT = X",
		" L = X",
		" N = 1 :(LOOP)",
	}},
	{"upper", []string{
		"LOOP OUTPUT = REPLACE(INPUT, 'abcdefghijklmnopqrstuvwxyz', 'ABCDEFGHIJKLMNOPQRSTUVWXYZ') :S(LOOP)",
	}},
	{"vowels", []string{
		"LOOP X = INPUT :F(END)",
		"NEXT X ? [ANY('aeiouAEIOU')] = '' :S(NEXT)",
		" OUTPUT = X :(LOOP)",
	}},
	{"words", []string{
		"LOOP X = INPUT :F(END)",
		"NEXT X ? [POS(0) SPAN(' ')] = ''",
		" X ? [POS(0) (BREAK(' ') | REM) . W] = ''",
		" DIFFER(W, '') :F(LOOP)",
		" OUTPUT = W :(NEXT)",
	}},
}

func TestQ1Names(t *testing.T) {
	var want []string
	for _, d := range documented {
		want = append(want, d.name)
	}
	got := library.Names()
	if !slices.Equal(got, want) {
		t.Errorf("Names: %q; want %q", got, want)
	}
	if len(got) != 29 || !slices.IsSorted(got) || len(slices.Compact(slices.Clone(got))) != 29 {
		t.Errorf("Names: %q are not 29, rising, each once", got)
	}
}

func TestQ1Texts(t *testing.T) {
	for _, d := range documented {
		want := strings.Join(d.lines, "\n") + "\n"
		if got, err := library.Text(d.name); err != api.OK || got != want {
			t.Errorf("Text of %q, error %d:\n%s\nwant:\n%s", d.name, err, got, want)
		}
	}
}

// wantNobody: no program has that name, and nothing is told beside the error (Z4).
func wantNobody(t *testing.T, name string) {
	t.Helper()
	if s, err := library.Text(name); err != api.ErrName || s != "" {
		t.Errorf("Text of %.40q: %q, error %d; want ErrName", name, s, err)
	}
}

func TestQ1NoSuchName(t *testing.T) {
	for _, name := range []string{"", " ", "\n", "\x00", "nobody", "END", "LOOP", "ca", "at", "cats", "sort.", "binary,brackets", "catText", strings.Repeat("cat", 30000)} {
		wantNobody(t, name)
	}
	for _, d := range documented {
		n := d.name
		for _, name := range []string{strings.ToUpper(n), strings.ToUpper(n[:1]) + n[1:], " " + n, n + " ", n[:1] + " " + n[1:], n + "\n", n + "\t", n + "\x00", n + "s", n + n, n[1:], n[:len(n)-1], "'" + n + "'"} {
			wantNobody(t, name)
		}
	}
}
