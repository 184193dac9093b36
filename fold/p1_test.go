package fold_test

import (
	"slices"
	"strings"
	"testing"

	"scanfail/api"
)

func TestP1WhatCheckSays(t *testing.T) {
	for _, c := range []struct {
		lines []string
		err   api.Errno
		at    int
	}{
		{[]string{"L :(M)"}, api.ErrNone, 0},
		{[]string{" X = 1 + 1", " X = 2 :S(M)"}, api.ErrNone, 1},
		{[]string{" X = 1 + 1", " X = 2 :F(M)"}, api.ErrNone, 1},
		{[]string{"A :(B)", "B :(C)", "", " :(A)"}, api.ErrNone, 1},
		{[]string{"L", " X = 1", "L"}, api.ErrName, 2},
		{[]string{"", "END"}, api.ErrName, 1},
		{[]string{" X = G(1 + 1)"}, api.ErrName, 0},
		{[]string{" DEFINE SIZE(A) L", "L"}, api.ErrName, 0},
		{[]string{" DEFINE F(A) L", "L", " X = F(1, 2)"}, api.ErrMany, 2},
		{[]string{" DEFINE F(A) L"}, api.ErrNone, 0},
		{[]string{" X = 1", " X = SIZE()"}, api.ErrMany, 1},
		{[]string{" X = EQ() & 'a'"}, api.ErrMany, 0},
		{[]string{" X = SIZE('a', 'b')"}, api.ErrMany, 0},
		{[]string{" X = 1", " T<EQ(1)> = 1"}, api.ErrMany, 1},
		{[]string{" X = 1", " $(1 + G()) ? [ARB] = 1"}, api.ErrName, 1},
		{[]string{" X = G() :(M)"}, api.ErrNone, 0},
		{[]string{" X = G()", "L", "L"}, api.ErrName, 2},
	} {
		wantFault(t, program(t, c.lines...), c.err, c.at)
	}
}

// What can't be read can still be handed in.
func TestP1WhatIsWrongWithStatements(t *testing.T) {
	good := assign(name("X"), two(api.ExAdd, number(1), number(1)))
	pat := api.Statement{Kind: api.StMatch, Value: text("a"), Pat: api.Pat{Kind: api.PatAny}}
	both := api.Statement{Kind: api.StEmpty, Always: "END", Yes: "END"}
	for _, c := range []struct {
		s   api.Statement
		err api.Errno
	}{
		{api.Statement{}, api.ErrKind},
		{api.Statement{Kind: api.StDefine + 1}, api.ErrKind},
		{eval(api.Expr{}), api.ErrKind},
		{eval(two(api.ExAdd, number(1), number(-1))), api.ErrRange},
		{eval(two(api.ExAdd, number(1), text(strings.Repeat("a", api.MaxText+1)))), api.ErrMuch},
		{eval(api.Expr{Kind: api.ExAdd, Kids: []api.Expr{number(1)}}), api.ErrMany},
		{eval(api.Expr{Kind: api.ExText, Kids: []api.Expr{number(1)}}), api.ErrMany},
		{assign(number(1), number(1)), api.ErrFit},
		{assign(two(api.ExCat, text("A"), text("B")), number(1)), api.ErrFit},
		{pat, api.ErrFit},
		{both, api.ErrFit},
		{api.Statement{Kind: api.StEmpty, Label: "small"}, api.ErrName},
		{api.Statement{Kind: api.StRule, Name: "small", Pat: api.Pat{Kind: api.PatArb}}, api.ErrName},
	} {
		wantFault(t, []api.Statement{c.s}, c.err, 0)
		wantFault(t, []api.Statement{good, good, c.s, {}}, c.err, 2)
	}
	many := slices.Repeat([]api.Statement{{Kind: api.StEmpty}}, api.MaxLines+1)
	wantFault(t, many, api.ErrMany, 0)
	many[3] = api.Statement{}
	wantFault(t, many, api.ErrMany, 0)
	quicker(t, slices.Repeat([]api.Statement{good}, api.MaxLines))
	quicker(t, nil)
}

// made are expressions, each of a kind of its own or of a function of its own, and what they become.
var made = [][2]string{
	{"1 + 2", "3"},
	{"5 - 2", "3"},
	{"4 * 5", "20"},
	{"7 / 2", "3"},
	{"7 % 2", "1"},
	{"-5", "'-5'"},
	{"'a' & 'b'", "'ab'"},
	{"SIZE('abc')", "3"},
	{"TRIM('a b ')", "'a b'"},
	{"REVERSE('abc')", "'cba'"},
	{"ROOT(17)", "4"},
	{"INTEGER(' 12 ')", "''"},
	{"DUPL('ab', 3)", "'ababab'"},
	{"ROTATE('abcd', 1)", "'bcda'"},
	{"COUNT('banana', 'an')", "2"},
	{"EQ(1, '01')", "''"},
	{"NE(1, 2)", "''"},
	{"LT(1, 2)", "''"},
	{"LE(2, 2)", "''"},
	{"GT(2, 1)", "''"},
	{"GE(2, 2)", "''"},
	{"IDENT('a', 'a')", "''"},
	{"DIFFER('a', 'b')", "''"},
	{"LGT('b', 'a')", "''"},
	{"REMDR(7, 4)", "3"},
	{"POWER(2, 10)", "1024"},
	{"GCD(12, 18)", "6"},
	{"BASE(255, 16)", "'ff'"},
	{"UNBASE('ff', 16)", "255"},
	{"REPLACE('banana', 'an', 'xy')", "'bxyxyx'"},
	{"SUBSTR('hello', 2, 3)", "'ell'"},
	{"LPAD('a', 3, '.')", "'..a'"},
	{"RPAD('a', 3, '.')", "'a..'"},
}

func TestP1EachKind(t *testing.T) {
	for _, c := range made {
		wantExpr(t, c[0], c[1])
	}
}

// Texts are read as numbers, numbers taken as texts, as in a run.
func TestP1TextsAndNumbers(t *testing.T) {
	for _, c := range [][2]string{
		{"'1' + '2'", "3"}, {"' 1 ' + '+02'", "3"}, {"'' + ''", "0"}, {"'-3' * 2", "'-6'"}, {"-''", "0"}, {"-'-5'", "5"}, {"-' -5'", "5"}, {"-0", "0"},
		{"1 & 2", "12"}, {"1 & 'a'", "'1a'"}, {"SIZE(100)", "3"}, {"REVERSE(120)", "'021'"}, {"SUBSTR(12345, 2, 3)", "234"}, {"IDENT(1, '1')", "''"},
		{"'-7' / 2", "'-3'"}, {"'-7' % 2", "'-1'"}, {"'" + greatest + "' + '" + least + "'", "'-1'"}, {"'" + least + "' % '-1'", "0"}, {"POWER(0, 0)", "1"}, {"GCD(0, 0)", "0"},
		{"'it''s' & ''''", "'it''s'''"}, {"SUBSTR('a', 2, 0)", "''"}, {"DUPL('a', 0)", "''"}, {"TRIM('  ')", "''"}, {"'a' & ''", "'a'"}, {"COUNT('', 'a')", "0"},
	} {
		wantExpr(t, c[0], c[1])
	}
}

func TestP1KidsFirst(t *testing.T) {
	for _, c := range [][2]string{
		{"1 + 2 * 3 & 'a'", "'7a'"},
		{"-(2 - 5)", "3"},
		{"-(-(-(4)))", "'-4'"},
		{"1 + (2 + (3 + (4 + 5)))", "15"},
		{"((1 + 2) * (3 + 4)) / (5 - 2)", "7"},
		{"SIZE(DUPL('ab', 1 + 1)) * -3", "'-12'"},
		{"REPLACE('a' & 'b', 'b' & '', 'c' & '')", "'ac'"},
		{"SUBSTR('he' & 'llo', 1 + 1, 4 - 1)", "'ell'"},
		{"EQ(1, 1) & 'b'", "'b'"},
		{"EQ(1, 1) + GT(2, 1)", "0"},
		{"BASE(UNBASE('z' & 'z', 6 * 6), 2 * 8)", "'50f'"},
		{"LPAD(SIZE('abc'), 2 + 2, 0 & '')", "'0003'"},
	} {
		wantExpr(t, c[0], c[1])
	}
}

// As deep, and as many nodes, as can be.
func TestP1Deep(t *testing.T) {
	deep := number(1)
	for range api.MaxDepth - 1 {
		deep = neg(deep)
	}
	sum := balanced(1, 2048, func(n int) api.Expr { return number(int64(n)) })
	k := quicker(t, []api.Statement{eval(deep), eval(sum), assign(api.Expr{Kind: api.ExItem, Name: "T", Kids: []api.Expr{deep.Kids[0]}}, sum)})
	if !sameExpr(k[0].Value, text("-1")) || !sameExpr(k[1].Value, number(2048*2049/2)) || !sameExpr(k[2].Value, k[1].Value) || !sameExpr(k[2].Target.Kids[0], number(1)) {
		t.Errorf("they become%s", tell(k))
	}
}

// balanced is a sum of what stands at from up to to.
func balanced(from, to int, at func(n int) api.Expr) api.Expr {
	if from == to {
		return at(from)
	}
	mid := (from + to) / 2
	return two(api.ExAdd, balanced(from, mid, at), balanced(mid+1, to, at))
}

func TestP1OneKidThatIsNotKnown(t *testing.T) {
	wantExprStays(t, "1 + X", "X + 1", "X - 1", "1 * X", "X / 1", "1 % X", "-X", "-T<1>", "-$'X'", "'a' & X", "X & 'a'", "INPUT & 'a'", "'a' & T<'b'>", "'a' & $'B'", "X + 1 + 2", "1 + X + 2", "X & 'a' & 'b'",
		"SIZE(X)", "SIZE(T<1>)", "SIZE($'X')", "DUPL(X, 2)", "DUPL('a', X)", "REPLACE(X, 'a', 'b')", "REPLACE('a', X, 'b')", "REPLACE('a', 'a', X)", "EQ(X, 1)", "EQ(1, X)", "IDENT(X, X)", "X", "T<X>", "$X", "0 * X")
	for _, c := range [][2]string{
		{"1 + 2 + X", "3 + X"},
		{"X + (1 + 2)", "X + 3"},
		{"X & ('a' & 'b')", "X & 'ab'"},
		{"SIZE('abc') & SIZE(Y)", "3 & SIZE(Y)"},
		{"SUBSTR('a' & 'b', X, 1 + 1)", "SUBSTR('ab', X, 2)"},
		{"SUBSTR(X, 1 + 1, 2 + 2)", "SUBSTR(X, 2, 4)"},
		{"SUBSTR('a' & 'b', 1 + 1, X)", "SUBSTR('ab', 2, X)"},
		{"-(X + -(1 + 2))", "-(X + '-3')"},
		{"1 + (2 + (3 + (4 + X * (5 + 6))))", "1 + (2 + (3 + (4 + X * 11)))"},
		{"(1 + 2) * (3 + (4 * 5 - T<6 + 7>))", "3 * (3 + (20 - T<13>))"},
		{"SIZE(TRIM(REVERSE(X & ('a' & 'b')))) + (1 + 1)", "SIZE(TRIM(REVERSE(X & 'ab'))) + 2"},
		{"1 + 2 & (3 + 4 & (5 + X))", "3 & (7 & (5 + X))"},
	} {
		wantExpr(t, c[0], c[1])
	}
}

func TestP1WhatFailsStays(t *testing.T) {
	wantExprStays(t,
		"'a' + 1", "1 + 'a'", "'a' - 1", "'1 1' * 1", "1 / 'x'", "'--1' % 1", "-'a'", "-'1x'", "1 + '1.5'",
		greatest+" + 1", "'"+least+"' - 1", greatest+" * 2", "'"+least+"' * '-1'", "-'"+least+"'", "'"+least+"' / '-1'", "0 + '9223372036854775808'",
		"1 / 0", "1 % 0", "1 / ''", "REMDR(1, 0)", "POWER(2, 63)", "POWER(2, '-1')", "ROOT('-1')", "GCD('"+least+"', 0)", "BASE(1, 1)", "BASE(1, 37)", "UNBASE('2', 2)", "UNBASE('', 10)", "UNBASE('1', 'x')", "ROOT('x')",
		"DUPL('ab', 32769)", "DUPL('a', '-1')", "DUPL('a', 'x')", "LPAD('a', 65537, ' ')", "RPAD('a', 65537, ' ')", "LPAD('a', 3, '')", "RPAD('a', 3, 'xy')", "SUBSTR('a', 2, 1)", "SUBSTR('a', 0, 1)", "SUBSTR('a', 1, 'x')",
		"REPLACE('a', '', '')", "REPLACE('a', 'b', '')", "COUNT('a', '')", "ROTATE('a', 'x')",
		"EQ(1, 2)", "EQ('a', 'a')", "NE(1, '01')", "LT(2, 2)", "LE(2, 1)", "GT(2, 2)", "GE(1, 2)", "IDENT(1, '01')", "DIFFER('a', 'a')", "LGT('a', 'a')", "LGT('a', 'b')", "INTEGER('x')", "INTEGER('9223372036854775808')")
	for _, c := range [][2]string{
		{"1 / (2 - 2)", "1 / 0"},
		{"1 / 0 + (1 + 1)", "1 / 0 + 2"},
		{"EQ(1, 1 + 1) & 'b'", "EQ(1, 2) & 'b'"},
		{"SIZE(ROOT(-1)) + SIZE('ab')", "SIZE(ROOT('-1')) + 2"},
		{"(1 + 1) & ('a' & (3 / (4 % (1 + 1))))", "2 & ('a' & 3 / 0)"},
		{"POWER(1 + 1, 60 + 3) + POWER(1 + 1, 60 + 2)", "POWER(2, 63) + 4611686018427387904"},
	} {
		wantExpr(t, c[0], c[1])
	}
}

// Texts that would be too long, and such as are just not.
func TestP1LongTexts(t *testing.T) {
	a := func(n int) string { return strings.Repeat("a", n) }
	dupl := func(n int64) api.Expr { return call("DUPL", text("a"), number(n)) }
	for _, c := range []struct{ x, want api.Expr }{
		{dupl(api.MaxText), text(a(api.MaxText))},
		{dupl(api.MaxText + 1), dupl(api.MaxText + 1)},
		{two(api.ExCat, dupl(api.MaxText), text("")), text(a(api.MaxText))},
		{two(api.ExCat, dupl(api.MaxText-1), text("b")), text(a(api.MaxText-1) + "b")},
		{two(api.ExCat, dupl(api.MaxText), text("b")), two(api.ExCat, text(a(api.MaxText)), text("b"))},
		{two(api.ExCat, text("b"), dupl(api.MaxText)), two(api.ExCat, text("b"), text(a(api.MaxText)))},
		{two(api.ExCat, two(api.ExCat, dupl(40000), dupl(40000)), number(1)), two(api.ExCat, two(api.ExCat, text(a(40000)), text(a(40000))), number(1))},
		{call("DUPL", text(a(256)), number(256)), text(a(api.MaxText))},
		{call("SIZE", dupl(api.MaxText)), number(api.MaxText)},
		{call("LPAD", number(7), number(api.MaxText), number(0)), text(strings.Repeat("0", api.MaxText-1) + "7")},
		{two(api.ExAdd, dupl(2), dupl(1)), two(api.ExAdd, text("aa"), text("a"))},
		{two(api.ExAdd, call("LPAD", text(""), number(api.MaxText), text(" ")), number(1)), number(1)},
	} {
		k := quicker(t, []api.Statement{eval(c.x), assign(name("X"), c.x), {Kind: api.StAssign, Target: api.Expr{Kind: api.ExItem, Name: "T", Kids: []api.Expr{c.x}}, Value: c.x}})
		if !sameExpr(k[0].Value, c.want) || !sameExpr(k[1].Value, c.want) || !sameExpr(k[2].Value, c.want) || !sameExpr(k[2].Target.Kids[0], c.want) {
			t.Errorf("of kind %d, name %q, comes kind %d, name %q, text of %d bytes, n %d", c.x.Kind, c.x.Name, k[0].Value.Kind, k[0].Value.Name, len(k[0].Value.Text), k[0].Value.N)
		}
	}
}

// What the program's own functions make is not known, whatever they are given.
func TestP1FunctionsOfTheProgram(t *testing.T) {
	behind := []string{" DEFINE G() G", " DEFINE H(A,B)C H", " DEFINE SIZES(A) H", " :(END)", "G G = 'g' :(RETURN)", "H H = A + B :(RETURN)"}
	for _, c := range [][2]string{
		{" X = G()", " X = G()"},
		{" X = H()", " X = H()"},
		{" X = H(1)", " X = H(1)"},
		{" X = H(1, 2)", " X = H(1, 2)"},
		{" X = SIZES('abc')", " X = SIZES('abc')"},
		{" X = H(1 + 1, 'a' & 'b')", " X = H(2, 'ab')"},
		{" X = G() & ('a' & 'b')", " X = G() & 'ab'"},
		{" X = SIZE(G())", " X = SIZE(G())"},
		{" T<H(1, 1 + 1)> = H(H(1, 2), 3 * 4)", " T<H(1, 2)> = H(H(1, 2), 12)"},
		{" H(1 + 1) + 1 + 1", " H(2) + 1 + 1"},
	} {
		wantQuicker(t, slices.Concat([]string{c[0]}, behind), slices.Concat([]string{c[1]}, behind)...)
	}
}

func TestP1NumberOrText(t *testing.T) {
	for _, c := range [][2]string{
		{"'0' & ''", "0"}, {"'' & '5'", "5"}, {"'12' & '34'", "1234"}, {"SUBSTR('a12', 2, 2)", "12"}, {"TRIM('7  ')", "7"}, {"REVERSE('01')", "10"}, {"BASE(5, 2)", "101"}, {"REPLACE('ab', 'ab', '12')", "12"}, {"LPAD(1, 3, 2)", "221"},
		{"922337203685477580 & 7", greatest}, {greatest + " + 0", greatest}, {"10 - 10", "0"},
		{"3 - 5", "'-2'"}, {"'" + least + "' + 0", "'" + least + "'"}, {"'-' & 5", "'-5'"}, {"'-' & 0", "'-0'"}, {"'+' & 5", "'+5'"},
		{"'0' & '7'", "'07'"}, {"0 & 0", "'00'"}, {"LPAD(7, 3, 0)", "'007'"}, {"REVERSE(10)", "'01'"},
		{"922337203685477580 & 8", "'9223372036854775808'"}, {"DUPL('9', 20)", "'" + strings.Repeat("9", 20) + "'"}, {"1 & " + greatest, "'1" + greatest + "'"},
		{"'' & ''", "''"}, {"EQ(0, 0)", "''"}, {"' ' & 5", "' 5'"}, {"5 & ' '", "'5 '"}, {"5 & '\t'", "'5\t'"}, {"1 & '.'", "'1.'"}, {"1 & 'e3'", "'1e3'"}, {"1 & '_0'", "'1_0'"}, {"0 & 'x1'", "'0x1'"}, {"BASE(10, 16)", "'a'"},
	} {
		wantExpr(t, c[0], c[1])
	}
}

// What has no kids stays what it is, digits too.
func TestP1WithoutKids(t *testing.T) {
	wantExprStays(t, "0", "5", greatest, "'0'", "'5'", "'00'", "'-5'", "''", "'a'", "'"+greatest+"'", "X", "INPUT", "OUTPUT")
}

// The kids of items and of indirect names are worked out; they themselves stay.
func TestP1ItemsAndIndirectNames(t *testing.T) {
	for _, c := range [][2]string{
		{" T<1 + 1> = 1", " T<2> = 1"},
		{" T<'a' & 'b'> ? ['a'] = 1", " T<'ab'> ? ['a'] = 1"},
		{" $('A' & 'B') = 1", " $'AB' = 1"},
		{" $('A' & 1) ? ['a'] = 1", " $'A1' ? ['a'] = 1"},
		{" $(1 + 1) = 1", " $2 = 1"},
		{" T<T<1 + 1> + 1> = $$('A' & 'B')", " T<T<2> + 1> = $$'AB'"},
		{" X = T<1 & 2>", " X = T<12>"},
		{" X = T<-1> & $('X' & '')", " X = T<'-1'> & $'X'"},
		{" T<1 / 0> = T<1 - 2>", " T<1 / 0> = T<'-1'>"},
		{" T<'1'> = $'X'", " T<'1'> = $'X'"},
		{" X<EQ(1, 1)> = 1", " X<''> = 1"},
		{" T<1 + 1> ? ['a'] = T<2 + 2> :S(END)F(END)", " T<2> ? ['a'] = T<4> :S(END)F(END)"},
	} {
		wantQuicker(t, []string{c[0]}, c[1])
	}
}

// All else of the statements is the same, whatever it is.
func TestP1AllElseStays(t *testing.T) {
	wantStays(t, "")
	wantStays(t, "L", " X = Y :S(L)F(M)", "M X :(END)", " DEFINE F(A,B)C,D M", " T<X> ? [ARB . Y] = Z", " P := [*Q 'a']", "N :S(L)", " :F(N)", " :S(L)F(M)", " $X = F(X, Y)", " X ? [LEN(3)]", " OUTPUT = INPUT :F(END)")
}

// What a statement's kind does not name is the same, too; it is not looked at.
func TestP1WhatTheKindDoesNotName(t *testing.T) {
	x, p := two(api.ExAdd, number(1), number(1)), api.Pat{Kind: api.PatLen}
	litter := func(kind int) api.Statement {
		return api.Statement{Kind: kind, Target: x, Value: x, Pat: p, Name: "no name", Entry: "none", Params: []string{"a", "a"}, Locals: []string{"INPUT"}}
	}
	place := api.Expr{Kind: api.ExItem, Name: "T", Kids: []api.Expr{x}}
	folded := api.Expr{Kind: api.ExItem, Name: "T", Kids: []api.Expr{number(2)}}
	simple := api.Pat{Kind: api.PatLit}
	var l, want []api.Statement
	add := func(s api.Statement, change func(s *api.Statement)) {
		l = append(l, s)
		change(&s)
		want = append(want, s)
	}
	add(litter(api.StEmpty), func(s *api.Statement) {})
	add(litter(api.StEval), func(s *api.Statement) { s.Value = number(2) })
	add(litter(api.StMatch), func(s *api.Statement) { s.Value, s.Pat = number(2), simple })
	s := litter(api.StAssign)
	s.Target = place
	add(s, func(s *api.Statement) { s.Target, s.Value = folded, number(2) })
	s.Kind = api.StReplace
	add(s, func(s *api.Statement) { s.Target, s.Value, s.Pat = folded, number(2), simple })
	s = litter(api.StRule)
	s.Name = "P"
	add(s, func(s *api.Statement) { s.Pat = simple })
	add(api.Statement{Kind: api.StDefine, Label: "L", Name: "F", Entry: "L", Target: x, Value: x, Pat: p}, func(s *api.Statement) {})
	if k := quicker(t, l); !same(k, want) {
		t.Errorf("they become %+v; want %+v", k, want)
	}
	node := api.Expr{Kind: api.ExNeg, Text: "litter", N: -7, Name: "no name", Kids: []api.Expr{{Kind: api.ExName, Text: "litter", N: -7, Name: "X"}}}
	known := api.Expr{Kind: api.ExNeg, Text: "litter", N: -7, Name: "no name", Kids: []api.Expr{{Kind: api.ExNumber, Text: "litter", N: 7, Name: "no name"}}}
	if k := quicker(t, []api.Statement{eval(node), eval(known)}); !sameExpr(k[0].Value, node) || !sameExpr(k[1].Value, text("-7")) {
		t.Errorf("they become %+v", k)
	}
}
