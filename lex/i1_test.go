package lex_test

import (
	"strings"
	"testing"

	"scanfail/api"
)

// allSigns are the signs of chapter 9.
var allSigns = []string{":=", "=", "?", "&", "+", "-", "*", "/", "%", "(", ")", "<", ">", ",", ":", "$"}

func blanks(n int) string { return strings.Repeat(" ", n) }

func TestI1OrdinaryLines(t *testing.T) {
	wantTokens(t, "X = 'a'", word("X", 0), sign("=", 2), text("a", 4)) // example 9 of DOC.md
	wantTokens(t, "L X = A & 2 :S(M)",
		word("L", 0), word("X", 2), sign("=", 4), word("A", 6), sign("&", 8), number("2", 10), sign(":", 12), word("S", 13), sign("(", 14), word("M", 15), sign(")", 16))
	wantTokens(t, " OUTPUT = 'a' & 2 + 3",
		word("OUTPUT", 1), sign("=", 8), text("a", 10), sign("&", 14), number("2", 16), sign("+", 18), number("3", 20))
	wantTokens(t, "L :(M)", word("L", 0), sign(":", 2), sign("(", 3), word("M", 4), sign(")", 5))
	wantTokens(t, " E := [*E '+' *T | *T]", word("E", 1), sign(":=", 3), pattern("*E '+' *T | *T", 6))
	wantTokens(t, " T<I + 1> ? [LEN(2) . X] = 'it''s' :S(L)F(M)",
		word("T", 1), sign("<", 2), word("I", 3), sign("+", 5), number("1", 7), sign(">", 8), sign("?", 10), pattern("LEN(2) . X", 12), sign("=", 25), text("it's", 27),
		sign(":", 35), word("S", 36), sign("(", 37), word("L", 38), sign(")", 39), word("F", 40), sign("(", 41), word("M", 42), sign(")", 43))
	wantTokens(t, " DEFINE ADD(A,B1)SUM,I E2",
		word("DEFINE", 1), word("ADD", 8), sign("(", 11), word("A", 12), sign(",", 13), word("B1", 14), sign(")", 16), word("SUM", 17), sign(",", 20), word("I", 21), word("E2", 23))
	wantTokens(t, " $('A' & N) = -N*2/3%4",
		sign("$", 1), sign("(", 2), text("A", 3), sign("&", 7), word("N", 9), sign(")", 10), sign("=", 12), sign("-", 14), word("N", 15), sign("*", 16), number("2", 17), sign("/", 18), number("3", 19), sign("%", 20), number("4", 21))
	wantTokens(t, "* 12 'a' [ARB]", sign("*", 0), number("12", 2), text("a", 5), pattern("ARB", 9)) // what it is good for, lex does not ask
}

func TestI1NothingButBlanks(t *testing.T) {
	for _, n := range []int{0, 1, 2, 3, 80, api.MaxLine - 1, api.MaxLine} {
		wantTokens(t, blanks(n))
	}
	wantFault(t, blanks(api.MaxLine+1), api.ErrMuch, 0)
}

// Blanks ahead, between and behind move tokens, and are none.
func TestI1BlanksMoveTokens(t *testing.T) {
	for n := range 10 {
		b := blanks(n)
		wantTokens(t, b+"X", word("X", n))
		wantTokens(t, "X"+b, word("X", 0))
		wantTokens(t, b+"X"+b, word("X", n))
		wantTokens(t, b+"X"+b+"="+b+"'a'"+b+"[A]"+b, word("X", n), sign("=", 2*n+1), text("a", 3*n+2), pattern("A", 4*n+5))
		wantTokens(t, "'"+b+"'", text(b, 0)) // in texts and patterns they stay
		wantTokens(t, "["+b+"]", pattern(b, 0))
		wantTokens(t, b+"'"+b+"a"+b+"'"+b, text(b+"a"+b, n))
		wantTokens(t, b+"["+b+"A"+b+"]"+b, pattern(b+"A"+b, n))
	}
}

// of is a line of just so many bytes.
func of(ahead, fill, behind string, n int) string {
	return ahead + strings.Repeat(fill, n-len(ahead)-len(behind)) + behind
}

func TestI1LongLines(t *testing.T) {
	const n = api.MaxLine
	many := func(kind int, s string) []api.Token {
		var out []api.Token
		for i := range n {
			out = append(out, api.Token{Kind: kind, Text: s, At: i})
		}
		return out
	}
	for _, c := range []struct {
		ahead, fill, behind string
		want                []api.Token
	}{
		{"", "A", "", []api.Token{word(of("", "A", "", n), 0)}},
		{"A", "7", "", []api.Token{word(of("A", "7", "", n), 0)}},
		{"", "0", "", []api.Token{number(of("", "0", "", n), 0)}},
		{"'", "a", "'", []api.Token{text(of("", "a", "", n-2), 0)}},
		{"", "'", "", []api.Token{text(of("", "'", "", n/2-1), 0)}},
		{"[", "a", "]", []api.Token{pattern(of("", "a", "", n-2), 0)}},
		{"['", "]", "']", []api.Token{pattern(of("'", "]", "'", n-2), 0)}},
		{"", "+", "", many(api.TokSign, "+")},
		{"", " ", "X", []api.Token{word("X", n-1)}},
		{"X", " ", "'a'", []api.Token{word("X", 0), text("a", n-3)}},
		{"", " ", ":=", []api.Token{sign(":=", n-2)}},
		{"X", " ", "", []api.Token{word("X", 0)}},
	} {
		wantTokens(t, of(c.ahead, c.fill, c.behind, n), c.want...)
		wantFault(t, of(c.ahead, c.fill, c.behind, n+1), api.ErrMuch, 0)
		wantFault(t, of(c.ahead, c.fill, c.behind, n+2), api.ErrMuch, 0)
		wantFault(t, of(c.ahead, c.fill, c.behind, 10*n), api.ErrMuch, 0)
		wantFault(t, of(c.ahead, c.fill, c.behind, 1<<20), api.ErrMuch, 0)
	}
	var words []api.Token
	for i := range n / 2 {
		words = append(words, word("X", 2*i))
	}
	wantTokens(t, strings.Repeat("X ", n/2), words...)
	wantFault(t, strings.Repeat("X ", n/2)+"Y", api.ErrMuch, 0)
}

// Where a line has faults of form, too: of those that are too long ErrMuch is told, and at 0.
func TestI1LongLinesWithFaults(t *testing.T) {
	const n = api.MaxLine
	for _, c := range []struct {
		ahead, fill, behind string
		at                  int
	}{
		{";", "A", "", 0},
		{";", " ", "", 0},
		{"A", "a", "", 1},
		{"", "A", ";", n - 1},
		{"", " ", "]", n - 1},
		{"", "+", "\x00", n - 1},
		{"", "\xff", "", 0},
		{"'", "a", "", n},
		{"'", "a", "''", n},
		{"[", "a", "", n},
		{"['", "]", "", n},
		{"['a'", " ", "'", n},
		{"", " ", "'", n},
		{"", " ", "[", n},
		{"", "7", "'", n},
	} {
		wantForm(t, of(c.ahead, c.fill, c.behind, n), c.at)
		wantFault(t, of(c.ahead, c.fill, c.behind, n+1), api.ErrMuch, 0)
		wantFault(t, of(c.ahead, c.fill, c.behind, 3*n), api.ErrMuch, 0)
	}
	wantTokens(t, of("", "'", "", n), text(of("", "'", "", n/2-1), 0))
	wantForm(t, of("", "'", "", n-1), n-1) // an odd number of them
}

// A line's length is that of its bytes, not of its tokens' texts.
func TestI1LengthIsOfBytes(t *testing.T) {
	const n = api.MaxLine
	wantTokens(t, "'"+strings.Repeat("é", n/2-1)+"'", text(strings.Repeat("é", n/2-1), 0))
	wantFault(t, "'"+strings.Repeat("é", n/2-1)+"' ", api.ErrMuch, 0)
	wantFault(t, "'"+strings.Repeat("'", n-2)+"' ", api.ErrMuch, 0)
	wantFault(t, "X"+blanks(n), api.ErrMuch, 0)
}

// written are tokens of all kinds, as they stand in a line, and their texts.
var written = []struct {
	s    string
	kind int
	text string
}{
	{"X", api.TokWord, "X"},
	{"AB12", api.TokWord, "AB12"},
	{"7", api.TokNumber, "7"},
	{"007", api.TokNumber, "007"},
	{"''", api.TokText, ""},
	{"'a b'", api.TokText, "a b"},
	{"''''", api.TokText, "'"},
	{"'[it''s'", api.TokText, "[it's"},
	{"[]", api.TokPattern, ""},
	{"[ARB]", api.TokPattern, "ARB"},
	{"[']''' 'X']", api.TokPattern, "']''' 'X'"},
	{"[[ ]", api.TokPattern, "[ "},
	{":=", api.TokSign, ":="},
	{"=", api.TokSign, "="},
	{"?", api.TokSign, "?"},
	{"&", api.TokSign, "&"},
	{"+", api.TokSign, "+"},
	{"-", api.TokSign, "-"},
	{"*", api.TokSign, "*"},
	{"/", api.TokSign, "/"},
	{"%", api.TokSign, "%"},
	{"(", api.TokSign, "("},
	{")", api.TokSign, ")"},
	{"<", api.TokSign, "<"},
	{">", api.TokSign, ">"},
	{",", api.TokSign, ","},
	{":", api.TokSign, ":"},
	{"$", api.TokSign, "$"},
}

// joins tells whether what is written so becomes something else when nothing stands between.
func joins(a, b int) bool {
	x, y := written[a], written[b]
	switch x.kind {
	case api.TokWord:
		return y.kind == api.TokWord || y.kind == api.TokNumber
	case api.TokNumber, api.TokText:
		return y.kind == x.kind
	}
	return x.s == ":" && y.s == "="
}

// rowOf is a line of such tokens with so many blanks ahead of each and behind the last one, and its tokens; where two would join there is one blank at least.
func rowOf(n int, row ...int) (string, []api.Token) {
	var out []api.Token
	s := blanks(n)
	for i, which := range row {
		if i > 0 && n == 0 && joins(row[i-1], which) {
			s += " "
		}
		w := written[which]
		out = append(out, api.Token{Kind: w.kind, Text: w.text, At: len(s)})
		s += w.s + blanks(n)
	}
	return s, out
}

// Each kind at the line's beginning, in its middle and at its end, with blanks around it and without.
func TestI1EachKindAtEachPlace(t *testing.T) {
	for n := range 3 {
		for a := range written {
			s, want := rowOf(n, a)
			wantTokens(t, s, want...)
			for b := range written {
				s, want := rowOf(n, a, b)
				wantTokens(t, s, want...)
				for c := range written {
					s, want := rowOf(n, a, b, c)
					wantTokens(t, s, want...)
				}
			}
		}
	}
}

// What joins when nothing stands between.
func TestI1WhatJoins(t *testing.T) {
	wantTokens(t, "AB", word("AB", 0))
	wantTokens(t, "A B", word("A", 0), word("B", 2))
	wantTokens(t, "A1", word("A1", 0))
	wantTokens(t, "A 1", word("A", 0), number("1", 2))
	wantTokens(t, "12", number("12", 0))
	wantTokens(t, "1 2", number("1", 0), number("2", 2))
	wantTokens(t, "1A", number("1", 0), word("A", 1))
	wantTokens(t, "'a''b'", text("a'b", 0))
	wantTokens(t, "'a' 'b'", text("a", 0), text("b", 4))
	wantTokens(t, "[A][B]", pattern("A", 0), pattern("B", 3))
	wantTokens(t, ":=", sign(":=", 0))
	wantTokens(t, ": =", sign(":", 0), sign("=", 2))
}

func TestI1Words(t *testing.T) {
	for b := byte('A'); b <= 'Z'; b++ {
		s := string(rune(b))
		wantTokens(t, s, word(s, 0))
		wantTokens(t, "X"+s, word("X"+s, 0))
		wantTokens(t, s+"9", word(s+"9", 0))
		wantTokens(t, " "+s+s+" ", word(s+s, 1))
	}
	for _, s := range []string{"A0", "A9", "Z0123456789", "X0Y9Z", "ABCDEFGHIJKLMNOPQRSTUVWXYZ", "END", "S", "F", "DEFINE", "LEN", "ABCDEFGHIJKLMNOP", "ABCDEFGHIJKLMNOPQ", "A000000000000000000000000"} {
		wantTokens(t, s, word(s, 0)) // more than MaxName signs, too
		wantTokens(t, "("+s+")", sign("(", 0), word(s, 1), sign(")", len(s)+1))
	}
	wantTokens(t, "1A", number("1", 0), word("A", 1))
	wantTokens(t, "12AB34", number("12", 0), word("AB34", 2))
	wantTokens(t, "0A0", number("0", 0), word("A0", 1))
	wantTokens(t, "A 1B", word("A", 0), number("1", 2), word("B", 3))
	for s, at := range map[string]int{"a": 0, "z": 0, "abc": 0, " a": 1, "aB": 0, "Ab": 1, "ABc": 2, "AbC": 1, "A b": 2, "A1b": 2, "1a": 1, "A_B": 1, "A.B": 1, "Xé": 1, "Ä": 0, "AÄ": 1} {
		wantForm(t, s, at)
	}
}

func TestI1Numbers(t *testing.T) {
	for _, s := range []string{"0", "1", "2", "3", "4", "5", "6", "7", "8", "9", "10", "00", "000", "007", "0123456789", "9223372036854775807", "9223372036854775808", "18446744073709551616", "00000000000000000000000000000001"} {
		wantTokens(t, s, number(s, 0))
		wantTokens(t, " "+s+" ", number(s, 1))
		wantTokens(t, "-"+s+"+"+s, sign("-", 0), number(s, 1), sign("+", len(s)+1), number(s, len(s)+2))
		wantTokens(t, s+"E"+s, number(s, 0), word("E"+s, len(s)))
	}
	wantTokens(t, "0 0", number("0", 0), number("0", 2))
	wantForm(t, "1.5", 1)
	wantForm(t, "12_3", 2)
	wantForm(t, "0x1", 1)
	wantForm(t, "1٣", 1) // a digit, but not of these ten
}

func TestI1Texts(t *testing.T) {
	for s, want := range map[string]string{
		"''":             "",
		"'a'":            "a",
		"' '":            " ",
		"''''":           "'",
		"''''''":         "''",
		"''''''''":       "'''",
		"'it''s'":        "it's",
		"'''a'":          "'a",
		"'a'''":          "a'",
		"'''a'''":        "'a'",
		"'''''a'''''":    "''a''",
		"' '' '":         " ' ",
		"'a''''b'":       "a''b",
		"'a''b''c'":      "a'b'c",
		"'[ARB]'":        "[ARB]",
		"']'":            "]",
		"'['":            "[",
		"':='":           ":=",
		"'X = 1 ; y'":    "X = 1 ; y",
		"'\"'":           "\"",
		`'\'`:            `\`,
		"'\t\n\r\x00'":   "\t\n\r\x00",
		"'\xff\x80\xc3'": "\xff\x80\xc3",
		"'é''é'":         "é'é",
		"'é'":            "é",
		"'`'":            "`",
	} {
		wantTokens(t, s, text(want, 0))
		wantTokens(t, " "+s+" ", text(want, 1))
		wantTokens(t, "X"+s+"Y", word("X", 0), text(want, 1), word("Y", len(s)+1))
		wantTokens(t, "1"+s+"2", number("1", 0), text(want, 1), number("2", len(s)+1))
		wantTokens(t, "["+s+"]", pattern(s, 0)) // there it stays as it is written
		wantTokens(t, s+"["+s+"]"+s, text(want, 0), pattern(s, len(s)), text(want, 2*len(s)+2))
		wantTokens(t, s+" "+s, text(want, 0), text(want, len(s)+1))
		// One right behind the other: the two quotes between are one of the text.
		wantTokens(t, s+s, text(want+"'"+want, 0))
		wantTokens(t, s+s+s, text(want+"'"+want+"'"+want, 0))
	}
}

func TestI1TextsThatDoNotEnd(t *testing.T) {
	for _, s := range []string{"'", "'a", "'a''", "'''", "'''''", "'a'' ", "'a''b", "'a''''", "''' ", "'''a", "' ", "'a]", "'[ARB]", "'\xff", "'é", "'a' 'b", "'a' '", "'a''b''", "'a' & 'b''"} {
		wantForm(t, s, len(s))
		wantForm(t, "X = "+s, len(s)+4)
		wantForm(t, "[ARB]"+s, len(s)+5)
		wantForm(t, s+" X = 1", len(s)+6)
		wantForm(t, s+" ; y", len(s)+4) // what cannot begin a token stands in it
		wantForm(t, s+"]", len(s)+1)
	}
	for n := range 40 {
		s := strings.Repeat("'", n)
		switch {
		case n%2 == 1:
			wantForm(t, s, n)
		case n > 0:
			wantTokens(t, s, text(strings.Repeat("'", n/2-1), 0))
		}
	}
}

func TestI1Patterns(t *testing.T) {
	for _, s := range []string{
		"",
		" ",
		"ARB",
		" ARB ",
		"'a' | LEN(2) . X",
		"'a'",
		"''",
		"''''",
		"']'",
		"']]]'",
		"'a]' 'b'",
		"'a' ']' 'b'",
		"'it''s'",
		"'it''s]'",
		"']''s'",
		"''']'",
		"'a'']'",
		"''']'''",
		"'' ''",
		"''''']' ''",
		"[",
		"[[[",
		"[ARB",
		"'['",
		"'[]'",
		"'a' [ ']'",
		"; y \t\x00\xff",
		"x1.$@|",
		"\"",
		"\\",
		"é",
		":=",
		"*E '+' *T | *T",
	} {
		wantTokens(t, "["+s+"]", pattern(s, 0))
		wantTokens(t, " ["+s+"] ", pattern(s, 1))
		wantTokens(t, "X["+s+"]Y", word("X", 0), pattern(s, 1), word("Y", len(s)+3))
		wantTokens(t, "1["+s+"]2", number("1", 0), pattern(s, 1), number("2", len(s)+3))
		wantTokens(t, "["+s+"]["+s+"]", pattern(s, 0), pattern(s, len(s)+2))
		wantTokens(t, "'a'["+s+"]'b'", text("a", 0), pattern(s, 3), text("b", len(s)+5))
		wantTokens(t, "["+s+"]:=", pattern(s, 0), sign(":=", len(s)+2))
		wantForm(t, "["+s, len(s)+1)
		wantForm(t, "X = ["+s, len(s)+5)
		wantForm(t, "["+s+"]]", len(s)+2)
		wantForm(t, "["+s+"]["+s, 2*len(s)+3)
	}
}

func TestI1PatternsThatDoNotEnd(t *testing.T) {
	for _, s := range []string{"[", "[ARB", "['a]", "['", "['a", "['a''", "[''", "[']", "[']'", "['''", "[''']", "['a'']", "['a''b]", "[[", "[ ", "[ARB ; y", "['a' ']", "['a' 'b]", "[''''']", "[\xff", "[A] [B", "[A] 'b' [']"} {
		wantForm(t, s, len(s))
		wantForm(t, "X ? "+s, len(s)+4)
		wantForm(t, "'a'"+s, len(s)+3)
		wantForm(t, s+" X", len(s)+2)
	}
	wantTokens(t, "['a] X = 1 ; 'b]", pattern("'a] X = 1 ; 'b", 0)) // the second quote closes what the first one opens
	wantForm(t, "['a] X = 1 ; 'b']", 17)                            // and a third one opens it again
	wantForm(t, "['a] X ] ]", 10)
	wantTokens(t, "['a] X' ]", pattern("'a] X' ", 0))
}

// A pattern ends at the first closing sign: what is open within does not count.
func TestI1PatternsAreNotNested(t *testing.T) {
	wantTokens(t, "[[A]", pattern("[A", 0))
	wantForm(t, "[[A]]", 4)
	wantForm(t, "[[A] ]", 5)
	wantTokens(t, "[[A] [B]", pattern("[A", 0), pattern("B", 5))
	wantTokens(t, "[(A] )", pattern("(A", 0), sign(")", 5))
	wantTokens(t, "['[' A]", pattern("'[' A", 0))
}

func TestI1Signs(t *testing.T) {
	for _, s := range allSigns {
		n := len(s)
		wantTokens(t, s, sign(s, 0))
		wantTokens(t, " "+s+" ", sign(s, 1))
		wantTokens(t, "X"+s+"Y", word("X", 0), sign(s, 1), word("Y", n+1))
		wantTokens(t, "1"+s+"2", number("1", 0), sign(s, 1), number("2", n+1))
		wantTokens(t, "'a'"+s+"'b'", text("a", 0), sign(s, 3), text("b", n+3))
		wantTokens(t, "[A]"+s+"[B]", pattern("A", 0), sign(s, 3), pattern("B", n+3))
		for _, other := range allSigns {
			wantTokens(t, s+" "+other, sign(s, 0), sign(other, n+1))
			if s != ":" || other != "=" {
				wantTokens(t, s+other, sign(s, 0), sign(other, n))
			}
		}
	}
	all := strings.Join(allSigns, "")
	want := []api.Token{sign(":=", 0)}
	for i := 2; i < len(all); i++ {
		want = append(want, sign(all[i:i+1], i))
	}
	wantTokens(t, all, want...)
}

func TestI1ColonAndEquals(t *testing.T) {
	wantTokens(t, ":=", sign(":=", 0))
	wantTokens(t, ": =", sign(":", 0), sign("=", 2))
	wantTokens(t, "=:", sign("=", 0), sign(":", 1))
	wantTokens(t, "::", sign(":", 0), sign(":", 1))
	wantTokens(t, "==", sign("=", 0), sign("=", 1))
	wantTokens(t, "::=", sign(":", 0), sign(":=", 1))
	wantTokens(t, ":==", sign(":=", 0), sign("=", 2))
	wantTokens(t, "=:=", sign("=", 0), sign(":=", 1))
	wantTokens(t, ":=:", sign(":=", 0), sign(":", 2))
	wantTokens(t, ":=:=", sign(":=", 0), sign(":=", 2))
	wantTokens(t, "=:=:", sign("=", 0), sign(":=", 1), sign(":", 3))
	wantTokens(t, "X:=[A]", word("X", 0), sign(":=", 1), pattern("A", 3))
	wantTokens(t, "X=Y:(L)", word("X", 0), sign("=", 1), word("Y", 2), sign(":", 3), sign("(", 4), word("L", 5), sign(")", 6))
	wantTokens(t, "X :", word("X", 0), sign(":", 2))
	wantTokens(t, "X :=", word("X", 0), sign(":=", 2))
	wantTokens(t, ":'='", sign(":", 0), text("=", 1))
	wantTokens(t, ":[=]", sign(":", 0), pattern("=", 1))
	wantTokens(t, "<=", sign("<", 0), sign("=", 1)) // no other two are one
	wantTokens(t, "->", sign("-", 0), sign(">", 1))
	wantTokens(t, "**", sign("*", 0), sign("*", 1))
	wantTokens(t, "()", sign("(", 0), sign(")", 1))
}

// Of every byte: alone, behind each kind, ahead of something, and within what goes on.
func TestI1EachByte(t *testing.T) {
	const begins = "ABCDEFGHIJKLMNOPQRSTUVWXYZ0123456789'[=?&+-*/%()<>,:$ "
	for b := range 256 {
		s := string([]byte{byte(b)})
		if !strings.Contains(begins, s) {
			wantForm(t, s, 0)
			wantForm(t, s+s, 0)
			wantForm(t, " "+s, 1)
			wantForm(t, "X"+s, 1)
			wantForm(t, "X "+s+" Y", 2)
			wantForm(t, "12"+s+"3", 2)
			wantForm(t, "'a'"+s, 3)
			wantForm(t, "[A]"+s, 3)
			wantForm(t, "X:="+s, 3)
			wantForm(t, ":"+s+"=", 1)
			wantForm(t, s+"X = 1", 0)
			wantForm(t, s+"'", 0)
		}
		if s != "'" {
			wantTokens(t, "'"+s+"'", text(s, 0))
			wantTokens(t, "'a"+s+s+"b'", text("a"+s+s+"b", 0))
			wantTokens(t, "['"+s+"']", pattern("'"+s+"'", 0))
			if s != "]" {
				wantTokens(t, "["+s+"]", pattern(s, 0))
				wantTokens(t, "[A"+s+s+"B]", pattern("A"+s+s+"B", 0))
			}
		}
	}
}

func TestI1BytesThatBeginNothing(t *testing.T) {
	for s, at := range map[string]int{
		"X;Y":         1,
		"X ; Y":       2,
		"]":           0,
		"X ]":         2,
		"[A]]":        3,
		"'a']":        3,
		".":           0,
		"X . Y":       2,
		"|":           0,
		"@X":          0,
		"!":           0,
		"\"a\"":       0,
		"#":           0,
		"X^2":         1,
		"_":           0,
		"`":           0,
		"{":           0,
		"}":           0,
		"~":           0,
		`\`:           0,
		"\x00":        0,
		"X\x00":       1,
		"\x7f":        0,
		"\x80":        0,
		"\xff":        0,
		"X\xc3\xa9":   1,
		" é":          1,
		"\u00a0":      0, // a blank, but not this one
		"\u2003X":     0,
		"\ufeffX = 1": 0,
		"\t":          0,
		"\tX":         0,
		"X\t":         1,
		"X\t= 1":      1,
		" \t ":        1,
		"X = 1\t":     5,
		"\n":          0,
		"X = 1\n":     5,
		"X\r":         1,
		"\v":          0,
		"\f":          0,
	} {
		wantForm(t, s, at)
	}
}

func TestI1WhichFaultIsMetFirst(t *testing.T) {
	for s, at := range map[string]int{
		"; 'a":        0, // the byte stands ahead of the text that does not end
		"X ; 'a":      2,
		"; ;":         0,
		"X;Y;Z":       1,
		"'a ;":        4, // it stands in the text
		"'a ; [":      6,
		"'a' ; 'b":    4,
		"'a' 'b ;":    8,
		"[a ;":        4,
		"[A] ; [":     4,
		"[A] [;":      6,
		"['a ;]":      6,
		"['a] ; 'b":   9,
		"[A 'b] ; y":  10,
		"'a [b] ;":    8,
		"; [":         0,
		"]['a":        0,
		"['a]' ] ] y": 8,
		"a'":          0,
		"a[":          0,
		"'a":          2,
		"X = 'a :(L)": 11,
		"12;'":        2,
		":=;'":        2,
		"=;=":         1,
		"' ' ' ; y":   9,
		"\t'a":        0,
		"'a\t":        3,
	} {
		wantForm(t, s, at)
	}
}

// wantAsModel holds what comes against what the model says, and then puts the tokens together again.
func wantAsModel(t *testing.T, s string) {
	t.Helper()
	want, fault := modelLine(s)
	if fault.Err != api.OK {
		wantFault(t, s, fault.Err, fault.At)
		return
	}
	wantTokens(t, s, want...)
	if got := again(want); got != strings.TrimRight(s, " ") {
		t.Errorf("Line %q: its tokens, put together again, are %q", brief(s), brief(got))
	}
}

// again is the line of which these are the tokens, without blanks behind them.
func again(l []api.Token) string {
	s := ""
	for _, x := range l {
		s += blanks(x.At - len(s))
		switch x.Kind {
		case api.TokText:
			s += "'" + strings.ReplaceAll(x.Text, "'", "''") + "'"
		case api.TokPattern:
			s += "[" + x.Text + "]"
		default:
			s += x.Text
		}
	}
	return s
}

// All small lines of bytes with which tokens begin, go on and end.
func TestI1AllSmallLines(t *testing.T) {
	for alphabet, longest := range map[string]int{"'[] ": 8, "A1':= [];": 5, "Aa0 ': =": 5} {
		last := []string{""}
		for range longest {
			var next []string
			for _, s := range last {
				for i := range len(alphabet) {
					next = append(next, s+alphabet[i:i+1])
					wantAsModel(t, s+alphabet[i:i+1])
				}
			}
			last = next
		}
		if t.Failed() {
			return
		}
	}
}

// Lines of tokens of all kinds, each with one byte left out, put in or replaced, and broken off.
func TestI1BesideGoodLines(t *testing.T) {
	d := dice(31)
	const bytes = "'A1 []:=;a+\x00\xff\t0Z"
	for i := range 4000 {
		s := blanks(d.below(2))
		for range 1 + i%9 {
			s += written[d.below(len(written))].s + blanks(d.below(3))
		}
		wantAsModel(t, s)
		for range 12 {
			at, b := d.below(len(s)), d.below(len(bytes))
			wantAsModel(t, s[:at]+s[at+1:])
			wantAsModel(t, s[:at]+bytes[b:b+1]+s[at:])
			wantAsModel(t, s[:at]+bytes[b:b+1]+s[at+1:])
			wantAsModel(t, s[:at])
		}
		if t.Failed() {
			return
		}
	}
}

// Lines of any bytes, and of lengths around MaxLine.
func TestI1AnyBytes(t *testing.T) {
	d := dice(37)
	for range 3000 {
		b := make([]byte, d.below(40))
		for i := range b {
			b[i] = byte(d.below(256))
		}
		wantAsModel(t, string(b))
		wantAsModel(t, "'"+string(b)+"'")
		wantAsModel(t, "["+string(b)+"]")
	}
	for n := api.MaxLine - 3; n <= api.MaxLine+3; n++ {
		for range 30 {
			s := ""
			for len(s) < n {
				s += written[d.below(len(written))].s + blanks(d.below(2))
			}
			wantAsModel(t, s[:n])
		}
	}
}

// Where a token begins is told in bytes from the line's beginning on, however long what stands ahead of it is written.
func TestI1WhereTokensBegin(t *testing.T) {
	for _, ahead := range []string{"", "X", "ABC12", "123", "''''", "'it''s'", "'''''a'", "'é'", "[ARB]", "[']''']", ":=", ":", "=", "   "} {
		for n := range 4 {
			s := ahead + blanks(n)
			got, _ := modelLine(s + "$X")
			if len(got) < 2 {
				t.Fatalf("the model says %v of %q", got, s)
			}
			wantTokens(t, s+"$X", append(got[:len(got)-2:len(got)-2], sign("$", len(s)), word("X", len(s)+1))...)
			wantForm(t, s+"$;", len(s)+1)
			wantForm(t, s+"$'a", len(s)+3)
		}
	}
	for n := range 200 {
		line := strings.Repeat("'it''s' ", n)
		var want []api.Token
		for i := range n {
			want = append(want, text("it's", 8*i))
		}
		wantTokens(t, line, want...)
		wantForm(t, line+"y", 8*n)
	}
}

// Beside a fault nothing is told, however many tokens stand ahead of it.
func TestI1NothingBesideAFault(t *testing.T) {
	for n := range 100 {
		good := strings.Repeat("X=1 ", n)
		wantForm(t, good+";", 4*n)
		wantForm(t, good+"'", 4*n+1)
		wantForm(t, good+"[", 4*n+1)
		wantForm(t, good+"a X=1", 4*n)
	}
	wantFault(t, of("X=1 ", " ", "", api.MaxLine+1), api.ErrMuch, 0)
}
