package library

// programs are all programs, their names rising.
func programs() []program {
	return []program{
		{"binary", binaryText},
		{"brackets", bracketsText},
		{"caesar", caesarText},
		{"cat", catText},
		{"collatz", collatzText},
		{"count", countText},
		{"digits", digitsText},
		{"divisors", divisorsText},
		{"euclid", euclidText},
		{"factorial", factorialText},
		{"fibonacci", fibonacciText},
		{"fields", fieldsText},
		{"hanoi", hanoiText},
		{"head", headText},
		{"longest", longestText},
		{"mirror", mirrorText},
		{"number", numberText},
		{"pascal", pascalText},
		{"primes", primesText},
		{"range", rangeText},
		{"reverse", reverseText},
		{"roman", romanText},
		{"sort", sortText},
		{"squeeze", squeezeText},
		{"sum", sumText},
		{"unique", uniqueText},
		{"upper", upperText},
		{"vowels", vowelsText},
		{"words", wordsText},
	}
}

// The texts of the programs, to the byte as doc/16-library.md has them.

const binaryText = `LOOP X = INPUT :F(END)
 OUTPUT = BASE(X, 2) :(LOOP)
`

const bracketsText = `LOOP X = INPUT :F(END)
 X ? [POS(0) (BAL | '') RPOS(0)] :F(NO)
 OUTPUT = 'yes' :(LOOP)
NO OUTPUT = 'no' :(LOOP)
`

const caesarText = `LOOP OUTPUT = REPLACE(INPUT, 'ABCDEFGHIJKLMNOPQRSTUVWXYZ', 'DEFGHIJKLMNOPQRSTUVWXYZABC') :S(LOOP)
`

const catText = `LOOP OUTPUT = INPUT :S(LOOP)
`

const collatzText = ` N = INPUT :F(END)
LOOP GT(N, 0) :F(END)
 OUTPUT = N + 0
 EQ(N, 1) :S(END)
 EQ(N % 2, 0) :S(HALF)
 N = 3 * N + 1 :S(LOOP)F(END)
HALF N = N / 2 :(LOOP)
`

const countText = `LOOP X = INPUT :F(DONE)
 N = N + 1 :(LOOP)
DONE OUTPUT = N + 0
`

const digitsText = `LOOP X = INPUT :F(END)
 S = 0
NEXT X ? [ANY('0123456789') . D] = '' :F(TELL)
 S = S + D :(NEXT)
TELL OUTPUT = S :(LOOP)
`

const divisorsText = ` N = INPUT :F(END)
 I = 1
LOOP LE(I, N) :F(END)
 EQ(N % I, 0) :F(NEXT)
 OUTPUT = I
NEXT I = I + 1 :(LOOP)
`

const euclidText = ` A = INPUT :F(END)
 B = INPUT :F(END)
LOOP EQ(B, 0) :S(DONE)
 C = REMDR(A, B) :F(END)
 A = B
 B = C :(LOOP)
DONE OUTPUT = A + 0
`

const factorialText = ` DEFINE FACT(N) FACT
LOOP X = INPUT :F(END)
 OUTPUT = FACT(X) :(LOOP)
FACT LE(N, 1) :S(ONE)
 FACT = N * FACT(N - 1) :S(RETURN)F(FRETURN)
ONE FACT = 1 :(RETURN)
`

const fibonacciText = ` N = INPUT :F(END)
 INTEGER(N) :F(END)
 B = 1
LOOP LE(N, 0) :S(END)
 OUTPUT = A + 0
 C = A + B :F(END)
 A = B
 B = C
 N = N - 1 :(LOOP)
`

const fieldsText = `LOOP X = INPUT :F(END)
NEXT X ? [POS(0) BREAK(',') . F LEN(1)] = '' :F(LAST)
 OUTPUT = F :(NEXT)
LAST OUTPUT = X :(LOOP)
`

const hanoiText = ` DEFINE MOVE(N,A,B,C) MOVE
 N = INPUT :F(END)
 MOVE(N, 'A', 'C', 'B') :(END)
MOVE GT(N, 0) :F(RETURN)
 MOVE(N - 1, A, C, B) :F(FRETURN)
 OUTPUT = A & ' to ' & B
 MOVE(N - 1, C, B, A) :S(RETURN)F(FRETURN)
`

const headText = ` N = INPUT :F(END)
LOOP GT(N, 0) :F(END)
 OUTPUT = INPUT :F(END)
 N = N - 1 :(LOOP)
`

const longestText = `LOOP X = INPUT :F(DONE)
 GT(SIZE(X), SIZE(M)) :F(LOOP)
 M = X :(LOOP)
DONE OUTPUT = M
`

const mirrorText = `LOOP X = INPUT :F(END)
 IDENT(X, REVERSE(X)) :F(LOOP)
 OUTPUT = X :(LOOP)
`

const numberText = `LOOP X = INPUT :F(END)
 N = N + 1
 OUTPUT = LPAD(N, 4, ' ') & ' ' & X :(LOOP)
`

const pascalText = ` N = INPUT :F(END)
ROW LT(I, N) :F(END)
 J = I + 0
SHIFT GT(J, 0) :F(TELL)
 T<J> = T<J> + T<J - 1>
 J = J - 1 :(SHIFT)
TELL T<0> = 1
 X = 1
 J = 0
MORE J = J + 1
 LE(J, I) :F(SAY)
 X = X & ' ' & T<J> :(MORE)
SAY OUTPUT = X
 I = I + 1 :(ROW)
`

const primesText = ` N = INPUT :F(END)
 I = 1
NEXT I = I + 1
 LE(I, N) :F(END)
 J = 2
TRY GT(J * J, I) :S(PRIME)
 EQ(REMDR(I, J), 0) :S(NEXT)
 J = J + 1 :(TRY)
PRIME OUTPUT = I :(NEXT)
`

const rangeText = `LOOP X = INPUT :F(DONE)
 INTEGER(X) :F(LOOP)
 EQ(K, 0) :S(FIRST)
 LT(X, A) :F(MORE)
 A = X + 0
MORE GT(X, B) :F(LOOP)
 B = X + 0 :(LOOP)
FIRST A = X + 0
 B = A
 K = 1 :(LOOP)
DONE EQ(K, 1) :F(END)
 OUTPUT = A & ' ' & B
`

const reverseText = `LOOP OUTPUT = REVERSE(INPUT) :S(LOOP)
`

const romanText = ` DEFINE ROMAN(N)T ROMAN
LOOP X = INPUT :F(END)
 OUTPUT = ROMAN(X) :(LOOP)
ROMAN N ? [RPOS(1) LEN(1) . T] = '' :F(RETURN)
 '0,1I,2II,3III,4IV,5V,6VI,7VII,8VIII,9IX,' ? [*T BREAK(',') . T] :F(FRETURN)
 ROMAN = REPLACE(ROMAN(N), 'IVXLCDM', 'XLCDM**') & T :S(RETURN)F(FRETURN)
`

const sortText = `LOOP X = INPUT :F(PRINT)
 N = N + 1
 I = N
SHIFT LE(I, 1) :S(PUT)
 J = I - 1
 LGT(T<J>, X) :F(PUT)
 T<I> = T<J>
 I = J :(SHIFT)
PUT T<I> = X :(LOOP)
PRINT K = K + 1
 LE(K, N) :F(END)
 OUTPUT = T<K> :(PRINT)
`

const squeezeText = `LOOP X = INPUT :F(END)
MORE X ? ['  '] = ' ' :S(MORE)
 OUTPUT = X :(LOOP)
`

const sumText = `LOOP X = INPUT :F(DONE)
 N = N + X :S(LOOP)
 OUTPUT = 'no: ' & X :(LOOP)
DONE OUTPUT = N + 0
`

const uniqueText = `LOOP X = INPUT :F(END)
 EQ(N, 0) :S(TELL)
 IDENT(X, L) :S(LOOP)
TELL OUTPUT = X
 L = X
 N = 1 :(LOOP)
`

const upperText = `LOOP OUTPUT = REPLACE(INPUT, 'abcdefghijklmnopqrstuvwxyz', 'ABCDEFGHIJKLMNOPQRSTUVWXYZ') :S(LOOP)
`

const vowelsText = `LOOP X = INPUT :F(END)
NEXT X ? [ANY('aeiouAEIOU')] = '' :S(NEXT)
 OUTPUT = X :(LOOP)
`

const wordsText = `LOOP X = INPUT :F(END)
NEXT X ? [POS(0) SPAN(' ')] = ''
 X ? [POS(0) (BREAK(' ') | REM) . W] = ''
 DIFFER(W, '') :F(LOOP)
 OUTPUT = W :(NEXT)
`
