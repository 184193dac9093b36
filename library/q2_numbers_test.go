package library_test

import (
	"math/big"
	"slices"
	"strings"
	"testing"

	"scanfail/api"
)

// Programs of numbers. Blanks and tabs alone, or nothing, are the number 0 (chapter 2).

const (
	greatest = "9223372036854775807"
	least    = "-9223372036854775808"
	above    = "9223372036854775808"
	below    = "-9223372036854775809"
)

func TestQ2Sum(t *testing.T) {
	ask(t, "sum").tells("0")
	ask(t, "sum", "").tells("0")
	ask(t, "sum", "x").tells("no: x", "0")
	ask(t, "sum", "12").tells("12")
	ask(t, "sum", "1", "-3", "007", " 4\t", "+5", "").tells("14")
	ask(t, "sum", "1", "x", "2", "", "3 4", "--1", above, "5").tells("no: x", "no: 3 4", "no: --1", "no: "+above, "8")
	ask(t, "sum", "-1", "-2").tells("-3")
	ask(t, "sum", greatest, "1", "0", "-1", "1", "1").tells("no: 1", "no: 1", greatest)
	ask(t, "sum", least, "-1", "1", "-2", "-1").tells("no: -1", "no: -2", least)
	ask(t, "sum", least, greatest).tells("-1")
	ask(t, "sum", full[4:]).tells("no: "+full[4:], "0")
}

// What would be too long behind `no: ` is left.
func TestQ2SumTooLong(t *testing.T) {
	ask(t, "sum", "1", full[3:], "2").tells("3")
}

func TestQ2Factorial(t *testing.T) {
	ask(t, "factorial").tells()
	ask(t, "factorial", "").tells("1")
	ask(t, "factorial", "5").tells("120")
	ask(t, "factorial", "0", "1", "2", "3", "-1", least, "-0").tells("1", "1", "2", "6", "1", "1", "1")
	ask(t, "factorial", "x", "004", "4x", above, "+3", " 3 ").tells("24", "6", "6")
	ask(t, "factorial", "20").tells("2432902008176640000")
	ask(t, "factorial", "21").tells()
	ask(t, "factorial", "19", "21", "20", "22", "99", "100", "101", "102", greatest, "2").tells("121645100408832000", "2432902008176640000", "2")
}

func TestQ2Fibonacci(t *testing.T) {
	ask(t, "fibonacci").tells()
	for _, none := range []string{"", "x", "0", "-1", least, "1x", above, below} {
		ask(t, "fibonacci", none, "5").tells()
	}
	ask(t, "fibonacci", "1").tells("0")
	ask(t, "fibonacci", "2").tells("0", "1")
	ask(t, "fibonacci", "007", "x").tells("0", "1", "1", "2", "3", "5", "8")
	l := ran(t, "fibonacci", []string{"92"}).Output
	if len(l) != 92 || l[90] != "2880067194370816120" || l[91] != "4660046610375530309" {
		t.Errorf("92 numbers are %d: %s", len(l), brief(l))
	}
	for i := 2; i < len(l); i++ {
		ask(t, "sum", l[i-2], l[i-1]).tells(l[i])
	}
	ask(t, "fibonacci", "91").tells(l[:91]...)
	for _, n := range []string{"93", "94", "1000", greatest} {
		ask(t, "fibonacci", n).tells(l...)
	}
}

func TestQ2Euclid(t *testing.T) {
	ask(t, "euclid").tells()
	ask(t, "euclid", "12").tells()
	ask(t, "euclid", "12", "8").tells("4")
	ask(t, "euclid", "8", "12", "5").tells("4")
	ask(t, "euclid", "0", "0").tells("0")
	ask(t, "euclid", "", "").tells("0")
	ask(t, "euclid", "5", "0").tells("5")
	ask(t, "euclid", "0", "5").tells("5")
	ask(t, "euclid", "-3", "0").tells("-3")
	ask(t, "euclid", "-12", "8").tells("-4")
	ask(t, "euclid", "12", "-8").tells("4")
	ask(t, "euclid", "007", "0014").tells("7")
	ask(t, "euclid", "7", "5").tells("1")
	ask(t, "euclid", greatest, least).tells("-1")
	ask(t, "euclid", least, "-1").tells("-1")
	ask(t, "euclid", greatest, greatest).tells(greatest)
	ask(t, "euclid", "1836311903", "1134903170").tells("1")
	for _, none := range []string{"x", "1x", above, below, "-"} {
		ask(t, "euclid", none, "4").tells()
		ask(t, "euclid", none, "0").tells()
		ask(t, "euclid", "4", none).tells()
		ask(t, "euclid", none, none, "4").tells()
	}
}

func TestQ2Primes(t *testing.T) {
	ask(t, "primes").tells()
	for _, none := range []string{"", "x", "0", "1", "-7", "7x", above, least} {
		ask(t, "primes", none, "7").tells()
	}
	ask(t, "primes", "2").tells("2")
	ask(t, "primes", "3").tells("2", "3")
	ask(t, "primes", "4").tells("2", "3")
	ask(t, "primes", "030", "x").tells("2", "3", "5", "7", "11", "13", "17", "19", "23", "29")
	ask(t, "primes", "49").tells("2", "3", "5", "7", "11", "13", "17", "19", "23", "29", "31", "37", "41", "43", "47")
}

func TestQ2Roman(t *testing.T) {
	ask(t, "roman").tells()
	ask(t, "roman", "1").tells("I")
	ask(t, "roman", "1994").tells("MCMXCIV")
	ask(t, "roman", "2", "3", "4", "5", "6", "7", "8", "9", "10").tells("II", "III", "IV", "V", "VI", "VII", "VIII", "IX", "X")
	ask(t, "roman", "40", "49", "90", "99", "400", "444", "500", "888", "900", "1000", "2026").tells("XL", "XLIX", "XC", "XCIX", "CD", "CDXLIV", "D", "DCCCLXXXVIII", "CM", "M", "MMXXVI")
	ask(t, "roman", "3999").tells("MMMCMXCIX")
	ask(t, "roman", "007", "0000000100").tells("VII", "C")
	ask(t, "roman", "x", "-3", "1x", "x1", "5", "1.5", " 7", "+7").tells("V")
}

// Of nothing and of noughts come no numerals; from 4000 on there are no signs for some digits, and * stands for them. A number with more digits than calls may be open is not told.
func TestQ2RomanBeyond(t *testing.T) {
	ask(t, "roman", "", "0", "000").tells("", "", "")
	ask(t, "roman", "4000", "5000", "4999", "10000").tells("M*", "*", "M*CMXCIX", "*")
	ask(t, "roman", strings.Repeat("0", 98)+"1", strings.Repeat("0", 99)+"1", strings.Repeat("0", 100)+"1", "2").tells("I", "II")
}

func TestQ2Hanoi(t *testing.T) {
	ask(t, "hanoi").tells()
	for _, none := range []string{"", "x", "0", "-1", "3x", above, least} {
		ask(t, "hanoi", none, "3").tells()
	}
	ask(t, "hanoi", "1").tells("A to C")
	ask(t, "hanoi", "2").tells("A to B", "A to C", "B to C")
	ask(t, "hanoi", "03", "x").tells("A to C", "A to B", "C to B", "A to C", "B to A", "B to C", "A to C")
}

// firstMoves are those of as many discs as come in, up to where the limit ended the run.
func firstMoves(t *testing.T, discs string) []string {
	t.Helper()
	r := ran(t, "hanoi", []string{discs})
	if r.How != api.RanLimit {
		t.Errorf("the moves of %s discs end, how %d", discs, r.How)
	}
	return r.Output
}

func TestQ2HanoiTooDeep(t *testing.T) {
	ask(t, "hanoi", "98").tellsAsModel(models["hanoi"])
	ask(t, "hanoi", "99").tellsAsModel(models["hanoi"])
	if l := firstMoves(t, "98"); len(l) < 10000 || l[0] != "A to B" {
		t.Errorf("98 discs: %d moves %s", len(l), brief(l))
	}
	if l := firstMoves(t, "99"); len(l) < 10000 || l[0] != "A to C" {
		t.Errorf("99 discs: %d moves %s", len(l), brief(l))
	}
	for _, n := range []string{"100", "101", "0100", "1000", greatest} {
		ask(t, "hanoi", n).tells()
	}
}

func TestQ2Head(t *testing.T) {
	ask(t, "head").tells()
	for _, none := range []string{"", "x", "0", "-1", "2x", above, below} {
		ask(t, "head", none, "a", "b").tells()
	}
	ask(t, "head", "1").tells()
	ask(t, "head", "1", "a", "b").tells("a")
	ask(t, "head", "2", "a", "b").tells("a", "b")
	ask(t, "head", "3", "a", "b").tells("a", "b")
	ask(t, "head", "002", "", "", "c").tells("", "")
	ask(t, "head", greatest, "7", "8").tells("7", "8")
}

func TestQ2Binary(t *testing.T) {
	ask(t, "binary").tells()
	ask(t, "binary", "").tells("0")
	ask(t, "binary", "5").tells("101")
	ask(t, "binary", "0", "1", "2", "-2", "007", "x", "255", "+8", "1x", " 3 ").tells("0", "1", "10", "-10", "111", "11111111", "1000", "11")
	ask(t, "binary", greatest, above, least, below).tells(strings.Repeat("1", 63), "-1"+strings.Repeat("0", 63))
}

func TestQ2Collatz(t *testing.T) {
	ask(t, "collatz").tells()
	for _, none := range []string{"", "x", "0", "-1", "5x", above, least} {
		ask(t, "collatz", none, "5").tells()
	}
	ask(t, "collatz", "1").tells("1")
	ask(t, "collatz", "2").tells("2", "1")
	ask(t, "collatz", "3").tells("3", "10", "5", "16", "8", "4", "2", "1")
	ask(t, "collatz", " 006", "7").tells("6", "3", "10", "5", "16", "8", "4", "2", "1")
	l := ran(t, "collatz", []string{"27"}).Output
	if len(l) != 112 || !slices.Contains(l, "9232") || l[111] != "1" {
		t.Errorf("of 27 come %d: %s", len(l), brief(l))
	}
	// Where three times it and one would be no number it ends.
	ask(t, "collatz", greatest).tells(greatest)
	ask(t, "collatz", "3074457345618258603").tells("3074457345618258603")
	ask(t, "collatz", "9223372036854775806").tells("9223372036854775806", "4611686018427387903")
	if l := ran(t, "collatz", []string{"3074457345618258601"}).Output; l[1] != "9223372036854775804" {
		t.Errorf("behind 3074457345618258601 comes %s", l[1])
	}
}

func TestQ2Divisors(t *testing.T) {
	ask(t, "divisors").tells()
	for _, none := range []string{"", "x", "0", "-6", "6x", above, least} {
		ask(t, "divisors", none, "6").tells()
	}
	ask(t, "divisors", "1").tells("1")
	ask(t, "divisors", "13").tells("1", "13")
	ask(t, "divisors", "012", "x").tells("1", "2", "3", "4", "6", "12")
	ask(t, "divisors", "36").tells("1", "2", "3", "4", "6", "9", "12", "18", "36")
}

func TestQ2Range(t *testing.T) {
	ask(t, "range").tells()
	ask(t, "range", "x", "1x", above, below).tells()
	ask(t, "range", "").tells("0 0")
	ask(t, "range", "5").tells("5 5")
	ask(t, "range", "12", "8", "x").tells("8 12")
	ask(t, "range", "x", "007", "7", "+7").tells("7 7")
	ask(t, "range", "-3", "5", "-10", "", "4").tells("-10 5")
	ask(t, "range", "3", "2", "1").tells("1 3")
	ask(t, "range", "10", "9").tells("9 10")
	ask(t, "range", "0", "-1").tells("-1 0")
	ask(t, "range", "-5", "-7").tells("-7 -5")
	ask(t, "range", "1", greatest, above, least, below, "0").tells(least + " " + greatest)
}

func TestQ2Pascal(t *testing.T) {
	ask(t, "pascal").tells()
	for _, none := range []string{"", "x", "0", "-1", "3x", above, least} {
		ask(t, "pascal", none, "3").tells()
	}
	ask(t, "pascal", "1").tells("1")
	ask(t, "pascal", "2").tells("1", "1 1")
	ask(t, "pascal", "007", "x").tells("1", "1 1", "1 2 1", "1 3 3 1", "1 4 6 4 1", "1 5 10 10 5 1", "1 6 15 20 15 6 1")
	ask(t, "pascal", "67").tellsAsModel(models["pascal"])
}

// In the 68th row are sums that would be none: what the row ahead has there stays.
func TestQ2PascalBeyond(t *testing.T) {
	want := beginning(models["pascal"]([]string{"67"}), 67)
	ahead := strings.Fields(want[66])
	var row []string
	for j := range int64(68) {
		if sum := new(big.Int).Binomial(67, j); sum.IsInt64() {
			row = append(row, sum.String())
		} else {
			row = append(row, ahead[j])
		}
	}
	ask(t, "pascal", "68").tells(append(want, strings.Join(row, " "))...)
}
