package library_test

import (
	"fmt"
	"slices"
	"strings"
	"testing"

	"scanfail/api"
)

// Programs of lines.

// many are so many lines, each with its number.
func many(n int) []string {
	var out []string
	for i := range n {
		out = append(out, fmt.Sprint("line ", i+1))
	}
	return out
}

var (
	full   = strings.Repeat("abcd", api.MaxText/4)         // as long as a line may be
	turns  = strings.Repeat("dcba", api.MaxText/4)         // the same, turned round
	spaced = "a" + strings.Repeat(" ", 300) + "b" + "  c " // many blanks
)

func TestQ2Cat(t *testing.T) {
	ask(t, "cat").tells()
	ask(t, "cat", "").tells("")
	ask(t, "cat", "a").tells("a")
	ask(t, "cat", "b", "", " a ", "a", "\x00\xff\n'").tells("b", "", " a ", "a", "\x00\xff\n'")
	ask(t, "cat", many(api.MaxInput)...).tells(many(api.MaxInput)...)
	ask(t, "cat", full, full).tells(full, full)
}

func TestQ2Reverse(t *testing.T) {
	ask(t, "reverse").tells()
	ask(t, "reverse", "").tells("")
	ask(t, "reverse", "abc").tells("cba")
	ask(t, "reverse", "ab", "", "aba", " x", "\xc3\xa9").tells("ba", "", "aba", "x ", "\xa9\xc3")
	ask(t, "reverse", full).tells(turns)
}

func TestQ2Count(t *testing.T) {
	ask(t, "count").tells("0")
	ask(t, "count", "").tells("1")
	ask(t, "count", "a").tells("1")
	ask(t, "count", "a", "", "a").tells("3")
	ask(t, "count", many(api.MaxInput)...).tells("1000")
}

func TestQ2Longest(t *testing.T) {
	ask(t, "longest").tells("")
	ask(t, "longest", "").tells("")
	ask(t, "longest", "a").tells("a")
	ask(t, "longest", "a", "bcd", "", "ef").tells("bcd")
	ask(t, "longest", "a", "bc", "de", "fg", "h").tells("bc")
	ask(t, "longest", "99", "100", "9").tells("100")
	ask(t, "longest", "a", full, turns).tells(full)
}

func TestQ2Sort(t *testing.T) {
	ask(t, "sort").tells()
	ask(t, "sort", "").tells("")
	ask(t, "sort", "a").tells("a")
	ask(t, "sort", "b", "a").tells("a", "b")
	ask(t, "sort", "b", "", "ab", "a", "", "b").tells("", "", "a", "ab", "b", "b")
	ask(t, "sort", "10", "9", "-1", "1", "+1").tells("+1", "-1", "1", "10", "9")
	ask(t, "sort", "a", "B", "\xff", "\x00", " ", "~").tells("\x00", " ", "B", "a", "~", "\xff")
	ask(t, "sort", "a\xff", "ab", "a", "a\x00").tells("a", "a\x00", "ab", "a\xff")
	rising := many(9)
	falling := slices.Clone(rising)
	slices.Reverse(falling)
	ask(t, "sort", rising...).tells(rising...)
	ask(t, "sort", falling...).tells(rising...)
	ask(t, "sort", full, "b", turns, full).tells(full, full, "b", turns)
	same := slices.Repeat([]string{"same"}, api.MaxInput)
	ask(t, "sort", same...).tells(same...)
}

func TestQ2Words(t *testing.T) {
	ask(t, "words").tells()
	ask(t, "words", "").tells()
	ask(t, "words", "   ").tells()
	ask(t, "words", "word").tells("word")
	ask(t, "words", " two  words ").tells("two", "words")
	ask(t, "words", "a b", "", "  ", "c", "  d  e f").tells("a", "b", "c", "d", "e", "f")
	ask(t, "words", "a,b\tc d'e", "0 00").tells("a,b\tc", "d'e", "0", "00")
	ask(t, "words", full[:9999]+" "+full[:9999]).tells(full[:9999], full[:9999])
}

func TestQ2Mirror(t *testing.T) {
	ask(t, "mirror").tells()
	ask(t, "mirror", "").tells("")
	ask(t, "mirror", "a").tells("a")
	ask(t, "mirror", "ab").tells()
	ask(t, "mirror", "abba", "abab", "aba", "Aa", " a ", " a", "", "11", "1 1", "10").tells("abba", "aba", " a ", "", "11", "1 1")
	ask(t, "mirror", full, full[:api.MaxText/2]+turns[:api.MaxText/2]).tells(full[:api.MaxText/2] + turns[:api.MaxText/2])
}

func TestQ2Caesar(t *testing.T) {
	ask(t, "caesar").tells()
	ask(t, "caesar", "").tells("")
	ask(t, "caesar", "ABCDEFGHIJKLMNOPQRSTUVWXYZ").tells("DEFGHIJKLMNOPQRSTUVWXYZABC")
	ask(t, "caesar", "VENI, VIDI, VICI", "", "XYZ").tells("YHQL, YLGL, YLFL", "", "ABC")
	ask(t, "caesar", "abc xyz 123 @[`{'\xff").tells("abc xyz 123 @[`{'\xff") // other letters than great ones stay
}

func TestQ2Brackets(t *testing.T) {
	ask(t, "brackets").tells()
	ask(t, "brackets", "").tells("yes")
	ask(t, "brackets", "a").tells("yes")
	ask(t, "brackets", "()").tells("yes")
	ask(t, "brackets", "(", ")", ")(", "(()", "())", "())(").tells("no", "no", "no", "no", "no", "no")
	ask(t, "brackets", "()()", "(())", "(()(()))()", "(a)b(c(d))", "a(b").tells("yes", "yes", "yes", "yes", "no")
	ask(t, "brackets", "[", "]{", "[)", "([)]", "'('").tells("yes", "yes", "no", "yes", "no") // of other brackets nothing is asked
	deep := strings.Repeat("(", 500) + strings.Repeat(")", 500)
	ask(t, "brackets", deep, deep+deep, deep+")", "("+deep, deep[1:]).tells("yes", "yes", "no", "no", "no")
}

func TestQ2Squeeze(t *testing.T) {
	ask(t, "squeeze").tells()
	ask(t, "squeeze", "").tells("")
	ask(t, "squeeze", " ", "  ", "   ", "    ").tells(" ", " ", " ", " ")
	ask(t, "squeeze", "a b", "a  b", "  a   b    c  ", "a\t\tb").tells("a b", "a b", " a b c ", "a\t\tb")
	ask(t, "squeeze", spaced).tells("a b c ")
	ask(t, "squeeze", full).tells(full)
}

func TestQ2Unique(t *testing.T) {
	ask(t, "unique").tells()
	ask(t, "unique", "").tells("")
	ask(t, "unique", "", "", "").tells("")
	ask(t, "unique", "a").tells("a")
	ask(t, "unique", "a", "a").tells("a")
	ask(t, "unique", "a", "a", "b", "b", "b", "a", "", "", "a").tells("a", "b", "a", "", "a")
	ask(t, "unique", "", "a", "A", "a ", "1", "01", "1").tells("", "a", "A", "a ", "1", "01", "1")
	ask(t, "unique", slices.Repeat([]string{"same"}, api.MaxInput)...).tells("same")
	ask(t, "unique", full, full, turns).tells(full, turns)
}

func TestQ2Number(t *testing.T) {
	ask(t, "number").tells()
	ask(t, "number", "").tells("   1 ")
	ask(t, "number", "a").tells("   1 a")
	ask(t, "number", "a", "", " b", "7").tells("   1 a", "   2 ", "   3  b", "   4 7")
	l := ran(t, "number", many(api.MaxInput)).Output
	if len(l) != api.MaxInput || l[8] != "   9 line 9" || l[9] != "  10 line 10" || l[99] != " 100 line 100" || l[998] != " 999 line 999" || l[999] != "1000 line 1000" {
		t.Errorf("number tells %d lines, last %q", len(l), l[len(l)-1])
	}
	ask(t, "number", full[5:]).tells("   1 " + full[5:])
}

// What would be too long with its number is left, and counts.
func TestQ2NumberTooLong(t *testing.T) {
	ask(t, "number", "a", full[4:], "b").tells("   1 a", "   3 b")
}

func TestQ2Upper(t *testing.T) {
	ask(t, "upper").tells()
	ask(t, "upper", "").tells("")
	ask(t, "upper", "abcdefghijklmnopqrstuvwxyz").tells("ABCDEFGHIJKLMNOPQRSTUVWXYZ")
	ask(t, "upper", "It's 1 o'clock", "", "ABC", "@[`{\xe4").tells("IT'S 1 O'CLOCK", "", "ABC", "@[`{\xe4")
	ask(t, "upper", full).tells(strings.ToUpper(full))
}

func TestQ2Fields(t *testing.T) {
	ask(t, "fields").tells()
	ask(t, "fields", "").tells("")
	ask(t, "fields", "a").tells("a")
	ask(t, "fields", ",").tells("", "")
	ask(t, "fields", "a,b,,c", "d", "", ",e,", ",,").tells("a", "b", "", "c", "d", "", "", "e", "", "", "", "")
	ask(t, "fields", " a , b;c", "'x,y'").tells(" a ", " b;c", "'x", "y'")
}

func TestQ2Vowels(t *testing.T) {
	ask(t, "vowels").tells()
	ask(t, "vowels", "").tells("")
	ask(t, "vowels", "aeiouAEIOU", "a", "b").tells("", "", "b")
	ask(t, "vowels", "The quick brown fox", "YyWw 12", "\xe9").tells("Th qck brwn fx", "YyWw 12", "\xe9")
}

func TestQ2Digits(t *testing.T) {
	ask(t, "digits").tells()
	ask(t, "digits", "").tells("0")
	ask(t, "digits", "0123456789").tells("45")
	ask(t, "digits", "12", "x", "", "-3", "a1b2c3", "99999999999999999999", "007", "4 5").tells("3", "0", "0", "3", "6", "180", "7", "9")
}

// What would be told beyond the bound of what may be told ends the run.
func TestQ2TooMuch(t *testing.T) {
	for _, name := range []string{"cat", "reverse", "upper", "caesar"} {
		r := ran(t, name, slices.Repeat([]string{full}, 20))
		if r.How != api.RanMuch || len(r.Output) != 15 {
			t.Errorf("%s tells %d lines, how %d", name, len(r.Output), r.How)
		}
	}
}
