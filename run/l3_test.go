package run_test

import (
	"fmt"
	"slices"
	"strings"
	"testing"

	"scanfail/api"
	"scanfail/check"
	"scanfail/run"
)

const (
	greatest = "9223372036854775807"
	least    = "-9223372036854775808"
)

func TestL3TextsAndNumbers(t *testing.T) {
	wantValue(t, "''", "")
	wantValue(t, "'a b'", "a b")
	wantValue(t, "'it''s'", "it's")
	wantValue(t, "'007'", "007")
	wantValue(t, "0", "0")
	wantValue(t, "7", "7")
	wantValue(t, greatest, greatest)
	wantTold(t, ask(" OUTPUT = INPUT").in("\x00\xff\n"), "\x00\xff\n")
}

func TestL3Names(t *testing.T) {
	wantValue(t, "X", "")
	wantValue(t, "X", "a", " X = 'a'")
	wantValue(t, "X & Y & X", "aba", " X = 'a'", " Y = 'b'")
	wantValue(t, "X1", "", " X = 'a'")
	wantValue(t, "SIZE & END & RETURN", "abc", " SIZE = 'a'", " END = 'b'", " RETURN = 'c'")
	wantFails(t, "INPUT")
	wantValue(t, "OUTPUT", "")
}

func TestL3Items(t *testing.T) {
	wantValue(t, "T<1>", "")
	wantValue(t, "T<1>", "a", " T<1> = 'a'")
	wantValue(t, "T<0 + 1> & T<'1'>", "aa", " T<1> = 'a'")
	wantValue(t, "T<'01'> & T<2> & S<1> & T", "", " T<1> = 'a'")
	wantValue(t, "T<T<T<1>>>", "c", " T<1> = 'a'", " T<'a'> = 'b'", " T<'b'> = 'c'")
	wantValue(t, "T<X>", "a", " X = DUPL('k', 65536)", " T<X> = 'a'")
	wantValue(t, "T<SUBSTR(X, 1, 65535)>", "", " X = DUPL('k', 65536)", " T<X> = 'a'")
	wantValue(t, "INPUT<1> & OUTPUT<1>", "")
	wantFails(t, "T<1 / 0>", " T<''> = 'a'")
	wantFails(t, "T<INPUT>")
}

func TestL3Indirect(t *testing.T) {
	wantValue(t, "$'X'", "a", " X = 'a'")
	wantValue(t, "$'Y'", "", " X = 'a'")
	wantValue(t, "$X", "b", " X = 'Y'", " Y = 'b'")
	wantValue(t, "$$X", "c", " X = 'Y'", " Y = 'Z'", " Z = 'c'")
	wantValue(t, "$('X' & 1)", "d", " X1 = 'd'")
	wantValue(t, "$T<1>", "e", " T<1> = 'X'", " X = 'e'")
	wantValue(t, "$'ABCDEFGHIJKLMNOP'", "f", " ABCDEFGHIJKLMNOP = 'f'")
	wantValue(t, "$'OUTPUT'", "")
	wantFails(t, "$'INPUT'")
	for _, s := range []string{"", "x", "1", "1A", "A B", " A", "A ", "A_", "Ä", "T<1>", "ABCDEFGHIJKLMNOPQ"} {
		wantFails(t, "$"+quoted(s))
	}
	wantFails(t, "$X")
	wantFails(t, "$7")
	wantFails(t, "$DUPL('A', 65536)")
	wantFails(t, "$(1 / 0)")
	wantTold(t, ask(" OUTPUT = $'INPUT'", " OUTPUT = $INPUT").in("a", "INPUT", "b"), "a", "b")
}

func TestL3Cat(t *testing.T) {
	wantValue(t, "'a' & 'b'", "ab")
	wantValue(t, "'' & ''", "")
	wantValue(t, "1 & 2", "12")
	wantValue(t, "1 & 2 + 3 & 4", "154")
	q := func(a, b int) question {
		return ask(fmt.Sprintf(" X = DUPL('a', %d) & DUPL('b', %d) :F(NO)", a, b), " OUTPUT = SIZE(X) & SUBSTR(X, 1, 1) & REVERSE(SUBSTR(X, SIZE(X), 1)) :(END)", "NO OUTPUT = 'no'")
	}
	wantTold(t, q(65535, 1), "65536ab")
	wantTold(t, q(1, 65535), "65536ab")
	wantTold(t, q(32768, 32768), "65536ab")
	wantTold(t, q(65536, 0), "65536aa")
	wantTold(t, q(0, 65536), "65536bb")
	wantTold(t, q(65535, 2), "no")
	wantTold(t, q(65536, 1), "no")
	wantTold(t, q(1, 65536), "no")
	wantTold(t, q(32769, 32768), "no")
	wantTold(t, q(65536, 65536), "no")
}

func TestL3Reckoning(t *testing.T) {
	for _, c := range []struct{ expr, want string }{
		{"2 + 3", "5"}, {"2 - 3", "-1"}, {"2 * 3", "6"}, {"7 / 2", "3"}, {"7 % 2", "1"},
		{"-7 / 2", "-3"}, {"-7 % 2", "-1"}, {"7 / -2", "-3"}, {"7 % -2", "1"},
		{"' 12\t' + '-007'", "5"}, {"'' + ''", "0"}, {"X - '+1'", "-1"}, {"'-0' + 0", "0"}, {"'\t' * 5", "0"},
		{"2 + 3 * 4 - 5", "9"}, {"10 - 2 - 3", "5"}, {"100 / 7 / 2", "7"}, {"100 % 7 * 2", "4"},
		{"-5", "-5"}, {"-'5'", "-5"}, {"-'-5'", "5"}, {"-X", "0"}, {"-0", "0"}, {"-' +5 '", "-5"}, {"-(2 & 3)", "-23"}, {"--5", "5"},
		{greatest + " + 0", greatest}, {greatest + " + -1", "9223372036854775806"}, {"-" + greatest + " - 1", least}, {"'" + least + "' + 0", least},
		{"'" + least + "' % -1", "0"}, {"4611686018427387904 * -2", least}, {"'" + least + "' / 1", least}, {"-" + greatest, "-" + greatest},
	} {
		wantValue(t, c.expr, c.want)
	}
	for _, expr := range []string{
		greatest + " + 1", "'" + least + "' - 1", "'" + least + "' * -1", "'" + least + "' / -1", "-'" + least + "'", "4611686018427387904 * 2", greatest + " * " + greatest, "0 - '" + least + "'",
		"1 / 0", "1 % 0", "1 / X", "1 % ''", "0 / '0'", "'9223372036854775808' + 0", "0 - '-9223372036854775809'", "-'9223372036854775808'",
	} {
		wantFails(t, expr)
	}
	for _, s := range []string{"x", "1x", "x1", "1 2", "+", "-", "--1", "+-1", "1.0", "1e3", "0x1", "1,", "(1)", "\n1", "1\n"} {
		for _, sign := range []string{"+", "-", "*", "/", "%"} {
			for _, q := range []question{ask(" OUTPUT = INPUT " + sign + " 1"), ask(" OUTPUT = 1 " + sign + " INPUT"), ask(" OUTPUT = 0 " + sign + " INPUT"), ask(" OUTPUT = -INPUT")} {
				wantTold(t, q.in(s))
			}
		}
	}
}

// functions are calls of all functions of the language, and what they make.
var functions = []struct{ call, want string }{
	{"SIZE('')", "0"}, {"SIZE('abc')", "3"}, {"SIZE(X)", "0"}, {"SIZE(DUPL('a', 65536))", "65536"}, {"SIZE(100)", "3"},
	{"TRIM('a b \t ')", "a b"}, {"TRIM(' a')", " a"}, {"TRIM('  ')", ""},
	{"REVERSE('abc')", "cba"}, {"REVERSE('')", ""},
	{"REPLACE('banana', 'an', 'xy')", "bxyxyx"}, {"REPLACE('', 'a', 'b')", ""}, {"REPLACE('abc', 'aba', 'xyz')", "zyc"},
	{"COUNT('banana', 'an')", "2"}, {"COUNT('aaaa', 'aa')", "2"}, {"COUNT('', 'a')", "0"}, {"COUNT(DUPL('a', 65536), 'a')", "65536"},
	{"DUPL('ab', 3)", "ababab"}, {"DUPL('ab', '')", ""}, {"DUPL('', " + greatest + ")", ""}, {"DUPL('ab', ' +2 ')", "abab"}, {"DUPL('ab', '-0')", ""}, {"SIZE(DUPL('ab', 32768))", "65536"},
	{"ROTATE('abcd', 1)", "bcda"}, {"ROTATE('abcd', -1)", "dabc"}, {"ROTATE('abcd', '')", "abcd"}, {"ROTATE('', 7)", ""}, {"ROTATE('abcd', " + greatest + ")", "dabc"}, {"ROTATE('abc', '" + least + "')", "bca"},
	{"SUBSTR('hello', 2, 3)", "ell"}, {"SUBSTR('hello', 6, 0)", ""}, {"SUBSTR('hello', '01', ' 5')", "hello"}, {"SUBSTR('hello', 3, '')", ""},
	{"LPAD('7', 3, '0')", "007"}, {"LPAD('abc', 2, '.')", "abc"}, {"LPAD('abc', '" + least + "', '.')", "abc"}, {"SIZE(LPAD('', 65536, '.'))", "65536"},
	{"RPAD('7', 3, '.')", "7.."}, {"RPAD('abc', '', ' ')", "abc"}, {"RPAD(1, 2, 3)", "13"},
	{"ROOT(99)", "9"}, {"ROOT('')", "0"}, {"ROOT(" + greatest + ")", "3037000499"},
	{"REMDR(7, -2)", "1"}, {"REMDR('-7', 2)", "-1"}, {"REMDR('" + least + "', -1)", "0"},
	{"POWER(2, 10)", "1024"}, {"POWER(-2, 63)", least}, {"POWER('', '')", "1"}, {"POWER(-1, " + greatest + ")", "-1"},
	{"GCD(12, 18)", "6"}, {"GCD(-12, 0)", "12"}, {"GCD('', '')", "0"},
	{"BASE(255, 16)", "ff"}, {"BASE(-5, 2)", "-101"}, {"BASE('', 36)", "0"}, {"BASE(35, ' 36')", "z"},
	{"UNBASE('ff', 16)", "255"}, {"UNBASE('-101', '2')", "-5"}, {"UNBASE('00z', 36)", "35"},
	{"IDENT('a', 'a')", ""}, {"IDENT('', X)", ""}, {"IDENT(10, '10')", ""},
	{"DIFFER('a', 'b')", ""}, {"DIFFER(1, '01')", ""}, {"DIFFER('a', 'a ')", ""},
	{"LGT('b', 'a')", ""}, {"LGT('a', '')", ""}, {"LGT('ab', 'a')", ""}, {"LGT('9', '10')", ""},
	{"EQ(1, '01')", ""}, {"EQ('', '-0')", ""}, {"EQ(' 5 ', '+5')", ""},
	{"NE(1, 2)", ""}, {"NE(-1, 1)", ""}, {"NE('', 1)", ""},
	{"LT(1, 2)", ""}, {"LT(-2, -1)", ""}, {"LT('9', '10')", ""}, {"LT('" + least + "', " + greatest + ")", ""},
	{"LE(1, 2)", ""}, {"LE(2, 2)", ""}, {"LE('9', '10')", ""},
	{"GT(2, 1)", ""}, {"GT('10', '9')", ""}, {"GT(" + greatest + ", '" + least + "')", ""},
	{"GE(2, 1)", ""}, {"GE(2, 2)", ""}, {"GE('', '')", ""},
	{"INTEGER(' 12 ')", ""}, {"INTEGER('')", ""}, {"INTEGER('+007')", ""}, {"INTEGER('" + least + "')", ""}, {"INTEGER(' \t')", ""},
}

// failing are calls of functions of the language that fail.
var failing = []string{
	"REPLACE('abc', '', '')", "REPLACE('abc', 'ab', 'x')", "REPLACE('abc', 'a', 'xy')",
	"COUNT('abc', '')", "COUNT('', '')",
	"DUPL('a', -1)", "DUPL('a', 65537)", "DUPL('ab', 32769)", "DUPL('a', " + greatest + ")", "DUPL('', -1)", "DUPL('a', 'x')", "DUPL('', 'x')", "DUPL('a', '9223372036854775808')",
	"ROTATE('abc', 'x')", "ROTATE('', 'x')", "ROTATE('abc', '9223372036854775808')",
	"SUBSTR('abc', 0, 1)", "SUBSTR('abc', 4, 1)", "SUBSTR('abc', 5, 0)", "SUBSTR('abc', 1, 4)", "SUBSTR('abc', 1, -1)", "SUBSTR('abc', '', 1)", "SUBSTR('abc', 'x', 1)", "SUBSTR('abc', 1, 'x')", "SUBSTR('abc', " + greatest + ", " + greatest + ")",
	"LPAD('a', 3, '')", "LPAD('a', 3, 'ab')", "LPAD('a', 65537, '.')", "LPAD('a', 'x', '.')", "LPAD('abc', 1, '')",
	"RPAD('a', 3, '')", "RPAD('a', 3, 'ab')", "RPAD('a', 65537, '.')", "RPAD('a', 'x', '.')", "RPAD('abc', 1, 12)",
	"ROOT(-1)", "ROOT('x')", "ROOT('9223372036854775808')",
	"REMDR(1, 0)", "REMDR(1, '')", "REMDR('x', 1)", "REMDR(1, 'x')",
	"POWER(2, -1)", "POWER(2, 63)", "POWER(2, " + greatest + ")", "POWER('x', 1)", "POWER(1, 'x')",
	"GCD('" + least + "', 0)", "GCD('" + least + "', '" + least + "')", "GCD('x', 1)", "GCD(1, 'x')",
	"BASE(1, 1)", "BASE(1, 37)", "BASE(1, -2)", "BASE('x', 10)", "BASE(1, 'x')", "BASE(1, '')",
	"UNBASE('2', 2)", "UNBASE('', 10)", "UNBASE('-', 10)", "UNBASE('F', 16)", "UNBASE('+1', 10)", "UNBASE(' 1', 10)", "UNBASE('1', 1)", "UNBASE('1', 37)", "UNBASE('1', 'x')", "UNBASE('9223372036854775808', 10)",
	"IDENT('a', 'b')", "IDENT(1, '01')", "IDENT('', ' ')", "DIFFER('a', 'a')", "DIFFER('', X)",
	"LGT('a', 'b')", "LGT('a', 'a')", "LGT('', '')", "LGT('a', 'ab')", "LGT('10', '9')",
	"EQ(1, 2)", "EQ('x', 'x')", "EQ(1, 'x')", "EQ('x', 1)", "EQ(0, 'x')", "NE(1, '01')", "NE('x', 'y')", "NE(1, 'x')", "NE('x', 1)",
	"LT(2, 1)", "LT(1, 1)", "LT('x', 1)", "LT(-1, 'x')", "LE(2, 1)", "LE('x', 1)", "LE(0, 'x')", "LE('x', 'x')",
	"GT(1, 2)", "GT(1, 1)", "GT('x', -1)", "GT(1, 'x')", "GE(1, 2)", "GE('x', 0)", "GE(1, 'x')", "GE('x', 'x')",
	"INTEGER('x')", "INTEGER('1 2')", "INTEGER('-')", "INTEGER('9223372036854775808')", "INTEGER('1.5')",
}

func TestL3Functions(t *testing.T) {
	seen := map[string]int{}
	for _, c := range functions {
		wantValue(t, c.call, c.want)
		seen[strings.Split(c.call, "(")[0]]++
	}
	for _, call := range failing {
		wantFails(t, call)
	}
	for _, s := range strings.Fields("SIZE TRIM REVERSE ROOT INTEGER DUPL ROTATE COUNT EQ NE LT LE GT GE IDENT DIFFER LGT REMDR POWER GCD BASE UNBASE REPLACE SUBSTR LPAD RPAD") {
		if seen[s] == 0 {
			t.Errorf("%s is not tried", s)
		}
	}
}

// each kind of expression with kids, and each function, with what its kids may be.
func shapes() (out []struct {
	ahead, behind string
	kids          []string
}) {
	add := func(ahead, behind string, kids ...string) {
		out = append(out, struct {
			ahead, behind string
			kids          []string
		}{ahead, behind, kids})
	}
	add("S<", ">", "'k'")
	add("$(", ")", "'X1'")
	add("-(", ")", "'5'")
	add("F(", ")", "'1'", "'2'", "'3'")
	for _, call := range []string{"SIZE('a')", "TRIM('a')", "REVERSE('a')", "ROOT('4')", "INTEGER('4')", "DUPL('a', '4')", "ROTATE('a', '4')", "COUNT('a', 'b')", "EQ('4', '4')", "NE('4', '5')", "LT('4', '5')", "LE('4', '5')", "GT('5', '4')", "GE('5', '4')", "IDENT('a', 'a')", "DIFFER('a', 'b')", "LGT('b', 'a')", "REMDR('5', '4')", "POWER('5', '4')", "GCD('5', '4')", "BASE('5', '4')", "UNBASE('3', '4')", "REPLACE('a', 'b', 'c')", "SUBSTR('abc', '1', '2')", "LPAD('abc', '4', ' ')", "RPAD('abc', '4', ' ')"} {
		name, rest, _ := strings.Cut(strings.TrimSuffix(call, ")"), "(")
		add(name+"(", ")", strings.Split(rest, ", ")...)
	}
	return out
}

// Kids are worked out from the first one on; one that fails makes all fail, and those behind it are not worked out.
func TestL3KidsInOrder(t *testing.T) {
	function := []string{" DEFINE F(P1,P2,P3) F :(GO)", "F :(RETURN)", "GO"}
	told := func(l []string) (out []string) {
		for _, s := range l {
			out = append(out, "T"+strings.Trim(s, "'"))
		}
		return out
	}
	for _, c := range shapes() {
		var kids []string
		for _, s := range c.kids {
			kids = append(kids, "T("+s+")")
		}
		wantTold(t, helped(append(function, " "+c.ahead+strings.Join(kids, ", ")+c.behind+" :S(END)", " OUTPUT = 'failed'")...), told(c.kids)...)
		for i := range kids {
			l := slices.Clone(kids)
			l[i] = "NO()"
			wantTold(t, helped(append(function, " "+c.ahead+strings.Join(l, ", ")+c.behind+" :S(END)", " OUTPUT = 'failed'")...), append(told(c.kids[:i]), "no", "failed")...)
		}
	}
	for _, sign := range []string{"&", "+", "-", "*", "/", "%"} {
		wantTold(t, helped(" T(1) "+sign+" T(2) :S(END)", " OUTPUT = 'failed'"), "T1", "T2")
		wantTold(t, helped(" NO() "+sign+" T(2) :S(END)", " OUTPUT = 'failed'"), "no", "failed")
		wantTold(t, helped(" T(1) "+sign+" NO() :S(END)", " OUTPUT = 'failed'"), "T1", "no", "failed")
		wantTold(t, helped(" T(1) "+sign+" (T('x') "+sign+" NO()) "+sign+" T(3) :S(END)", " OUTPUT = 'failed'"), "T1", "Tx", "no", "failed")
	}
	// What is no number is seen only behind all kids.
	wantTold(t, helped(" T('x') + T('y') :S(END)", " OUTPUT = 'failed'"), "Tx", "Ty", "failed")
	wantTold(t, helped(" DUPL(T('a'), T('x')) :S(END)", " OUTPUT = 'failed'"), "Ta", "Tx", "failed")
	wantTold(t, ask(" OUTPUT = INPUT & INPUT - INPUT & INPUT").in("5", "7", "2", "9"), "559")
}

// An expression that is as great as can be, and as deep.
func TestL3Greatest(t *testing.T) {
	deep := api.Expr{Kind: api.ExNumber, N: 1}
	for range api.MaxDepth - 1 {
		deep = api.Expr{Kind: api.ExNeg, Kids: []api.Expr{deep}}
	}
	wide := api.Expr{Kind: api.ExNumber, N: 3}
	for range 11 {
		wide = api.Expr{Kind: api.ExAdd, Kids: []api.Expr{wide, wide}}
	}
	output := api.Expr{Kind: api.ExName, Name: "OUTPUT"}
	l := []api.Statement{{Kind: api.StAssign, Target: output, Value: deep}, {Kind: api.StAssign, Target: output, Value: wide}}
	if fault := check.Check(l); fault.Err != api.OK {
		t.Fatalf("Check: %v", fault)
	}
	ran, comings, fault := run.Run(l, nil, 2)
	if got := show(ran, comings); fault != (api.Fault{}) || got != `end 2 [1 1] ["-1" "6144"]` {
		t.Errorf("Run of the greatest expressions: %s, fault %v", got, fault)
	}
}
