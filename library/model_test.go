package library_test

import (
	"fmt"
	"iter"
	"math/big"
	"slices"
	"strconv"
	"strings"
)

// model says what a program tells of lines that come in, line by line, since some never come to an end within the limit.
type model func(in []string) iter.Seq[string]

// models are those of all programs: Q2's words, in other means.
var models = map[string]model{
	"binary":    eachNumber(func(n *big.Int) []string { return []string{n.Text(2)} }),
	"brackets":  each(func(s string) []string { return []string{yesOrNo(inPairs(s))} }),
	"caesar":    eachByte(threeOn),
	"cat":       slices.Values[[]string],
	"collatz":   collatz,
	"count":     all(func(in []string) []string { return []string{strconv.Itoa(len(in))} }),
	"digits":    each(func(s string) []string { return []string{strconv.Itoa(digitSum(s))} }),
	"divisors":  divisors,
	"euclid":    all(euclid),
	"factorial": eachNumber(factorial),
	"fibonacci": all(fibonacci),
	"fields":    each(func(s string) []string { return strings.Split(s, ",") }),
	"hanoi":     hanoi,
	"head":      all(head),
	"longest":   all(longest),
	"mirror":    each(func(s string) []string { return only(s, s == turned(s)) }),
	"number":    all(numbered),
	"pascal":    pascal,
	"primes":    primes,
	"range":     all(leastAndGreatest),
	"reverse":   each(func(s string) []string { return []string{turned(s)} }),
	"roman":     each(romanByPlaces),
	"sort":      all(sorted),
	"squeeze":   each(func(s string) []string { return []string{squeezed(s)} }),
	"sum":       all(sum),
	"unique":    all(func(in []string) []string { return slices.Compact(slices.Clone(in)) }),
	"upper":     eachByte(great),
	"vowels":    eachByte(noVowel),
	"words":     each(func(s string) []string { return strings.FieldsFunc(s, func(r rune) bool { return r == ' ' }) }),
}

func all(f func(in []string) []string) model {
	return func(in []string) iter.Seq[string] { return slices.Values(f(in)) }
}

func each(f func(s string) []string) model {
	return all(func(in []string) []string {
		var out []string
		for _, s := range in {
			out = append(out, f(s)...)
		}
		return out
	})
}

func eachByte(f func(b byte) string) model {
	return each(func(s string) []string {
		out := ""
		for i := range len(s) {
			out += f(s[i])
		}
		return []string{out}
	})
}

func eachNumber(f func(n *big.Int) []string) model {
	return each(func(s string) []string {
		if n, ok := number(s); ok {
			return f(n)
		}
		return nil
	})
}

// number is a line as a number of chapter 2.
func number(s string) (*big.Int, bool) {
	s = strings.Trim(s, " \t")
	if s == "" {
		return big.NewInt(0), true
	}
	digits := strings.TrimPrefix(s, "+")
	if digits == s {
		digits = strings.TrimPrefix(s, "-")
	}
	if digits == "" || strings.Trim(digits, "0123456789") != "" {
		return nil, false
	}
	n, ok := new(big.Int).SetString(s, 10)
	return n, ok && n.IsInt64()
}

// first is the first line's number.
func first(in []string) (*big.Int, bool) {
	if len(in) == 0 {
		return nil, false
	}
	return number(in[0])
}

func only(s string, so bool) []string {
	if so {
		return []string{s}
	}
	return nil
}

func yesOrNo(so bool) string {
	if so {
		return "yes"
	}
	return "no"
}

func inPairs(s string) bool {
	open := 0
	for i := range len(s) {
		switch s[i] {
		case '(':
			open++
		case ')':
			open--
		}
		if open < 0 {
			return false
		}
	}
	return open == 0
}

func threeOn(b byte) string {
	if b >= 'A' && b <= 'Z' {
		b = 'A' + (b-'A'+3)%26
	}
	return string([]byte{b})
}

func great(b byte) string {
	if b >= 'a' && b <= 'z' {
		b -= 'a' - 'A'
	}
	return string([]byte{b})
}

func noVowel(b byte) string {
	switch b {
	case 'a', 'e', 'i', 'o', 'u', 'A', 'E', 'I', 'O', 'U':
		return ""
	}
	return string([]byte{b})
}

func turned(s string) string {
	b := []byte(s)
	slices.Reverse(b)
	return string(b)
}

func squeezed(s string) string {
	b := []byte(s)
	return string(slices.CompactFunc(b, func(x, y byte) bool { return x == ' ' && y == ' ' }))
}

func digitSum(s string) int {
	n := 0
	for i := range len(s) {
		if s[i] >= '0' && s[i] <= '9' {
			n += int(s[i] - '0')
		}
	}
	return n
}

func sorted(in []string) []string {
	out := slices.Clone(in)
	slices.Sort(out)
	return out
}

func longest(in []string) []string {
	out := ""
	for _, s := range in {
		if len(s) > len(out) {
			out = s
		}
	}
	return []string{out}
}

func numbered(in []string) []string {
	var out []string
	for i, s := range in {
		out = append(out, fmt.Sprintf("%4d %s", i+1, s))
	}
	return out
}

func head(in []string) []string {
	n, ok := first(in)
	if !ok || n.Sign() <= 0 {
		return nil
	}
	if n.Cmp(big.NewInt(int64(len(in)-1))) > 0 {
		return in[1:]
	}
	return in[1 : 1+n.Int64()]
}

func sum(in []string) []string {
	var out []string
	n := big.NewInt(0)
	for _, s := range in {
		m, ok := number(s)
		if ok {
			m = new(big.Int).Add(n, m)
		}
		if ok && m.IsInt64() {
			n = m
		} else {
			out = append(out, "no: "+s)
		}
	}
	return append(out, n.String())
}

func leastAndGreatest(in []string) []string {
	var l []*big.Int
	for _, s := range in {
		if n, ok := number(s); ok {
			l = append(l, n)
		}
	}
	if len(l) == 0 {
		return nil
	}
	return []string{slices.MinFunc(l, (*big.Int).Cmp).String() + " " + slices.MaxFunc(l, (*big.Int).Cmp).String()}
}

func euclid(in []string) []string {
	if len(in) < 2 {
		return nil
	}
	a, ok := number(in[0])
	b, also := number(in[1])
	if !ok || !also {
		return nil
	}
	for b.Sign() != 0 {
		a, b = b, new(big.Int).Rem(a, b)
	}
	return []string{a.String()}
}

func factorial(n *big.Int) []string {
	if n.Cmp(big.NewInt(2)) < 0 {
		return []string{"1"}
	}
	if n.Cmp(big.NewInt(1000)) > 0 {
		return nil
	}
	f := new(big.Int).MulRange(1, n.Int64())
	return only(f.String(), f.IsInt64())
}

func fibonacci(in []string) []string {
	n, ok := first(in)
	if !ok {
		return nil
	}
	var out []string
	a, b := big.NewInt(0), big.NewInt(1)
	for i := int64(0); i < 92 && n.Cmp(big.NewInt(i)) > 0; i++ {
		out = append(out, a.String())
		a, b = b, new(big.Int).Add(a, b)
	}
	return out
}

func none(func(string) bool) {}

func collatz(in []string) iter.Seq[string] {
	n, ok := first(in)
	if !ok || n.Sign() <= 0 {
		return none
	}
	one, three := big.NewInt(1), big.NewInt(3)
	return func(yield func(string) bool) {
		for n.IsInt64() && yield(n.String()) && n.Cmp(one) != 0 {
			if n.Bit(0) == 0 {
				n = new(big.Int).Rsh(n, 1)
			} else {
				n = new(big.Int).Add(new(big.Int).Mul(n, three), one)
			}
		}
	}
}

// upTo are the numbers from one on, up to the first line's number, for which something is so.
func upTo(in []string, from int64, so func(i, n int64) bool) iter.Seq[string] {
	n, ok := first(in)
	if !ok {
		return none
	}
	return func(yield func(string) bool) {
		for i := from; i <= n.Int64(); i++ {
			if so(i, n.Int64()) && !yield(strconv.FormatInt(i, 10)) {
				return
			}
		}
	}
}

func divisors(in []string) iter.Seq[string] {
	return upTo(in, 1, func(i, n int64) bool { return n%i == 0 })
}

func primes(in []string) iter.Seq[string] {
	return upTo(in, 2, func(i, _ int64) bool { return big.NewInt(i).ProbablyPrime(0) })
}

func hanoi(in []string) iter.Seq[string] {
	n, ok := first(in)
	if !ok || n.Cmp(big.NewInt(100)) >= 0 {
		return none
	}
	return func(yield func(string) bool) { moves(n.Int64(), "A", "C", "B", yield) }
}

// moves are those of n discs from one peg to another one; whether all were told.
func moves(n int64, from, to, over string, yield func(string) bool) bool {
	if n <= 0 {
		return true
	}
	return moves(n-1, from, over, to, yield) && yield(from+" to "+to) && moves(n-1, over, to, from, yield)
}

func pascal(in []string) iter.Seq[string] {
	n, ok := first(in)
	if !ok {
		return none
	}
	return func(yield func(string) bool) {
		for i := range max(n.Int64(), 0) {
			var row []string
			for j := range i + 1 {
				row = append(row, new(big.Int).Binomial(i, j).String())
			}
			if !yield(strings.Join(row, " ")) {
				return
			}
		}
	}
}

// romanByPlaces is digit by digit what stands for it at its place; * stands for signs that there are not. Of what has a sign that is no digit nothing is told.
func romanByPlaces(s string) []string {
	if strings.Trim(s, "0123456789") != "" {
		return nil
	}
	out := ""
	for i := range len(s) {
		place := len(s) - 1 - i
		for _, c := range []string{"", "0", "00", "000", "01", "1", "10", "100", "1000", "02"}[s[i]-'0'] {
			sign := byte('*')
			if at := 2*place + int(c-'0'); at < 7 {
				sign = "IVXLCDM"[at]
			}
			out += string(sign)
		}
	}
	return []string{out}
}

// romanByGreatest takes the greatest numeral that is not above what is left, again and again.
func romanByGreatest(n int) string {
	out := ""
	for _, r := range []struct {
		n int
		s string
	}{{1000, "M"}, {900, "CM"}, {500, "D"}, {400, "CD"}, {100, "C"}, {90, "XC"}, {50, "L"}, {40, "XL"}, {10, "X"}, {9, "IX"}, {5, "V"}, {4, "IV"}, {1, "I"}} {
		out += strings.Repeat(r.s, n/r.n)
		n %= r.n
	}
	return out
}
