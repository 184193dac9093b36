package syntax_test

import (
	"strings"
	"testing"

	"scanfail/api"
	"scanfail/lex"
	"scanfail/pats"
	"scanfail/syntax"
)

func TestJ3Remarks(t *testing.T) {
	for _, line := range []string{"*", "**", "*x", "* 'a", "* X = 1", "*;", "*[", "*\x00\xff", "*\n", "*X :(M)", "* ", "*" + longest + "X"} {
		wantRemark(t, line)
	}
	for _, fill := range []string{"x", " ", "'", "*", "\xff"} {
		for _, n := range []int{api.MaxLine - 2, api.MaxLine - 1} {
			wantRemark(t, "*"+many(fill, n))
		}
		for _, n := range []int{api.MaxLine, api.MaxLine + 1, api.MaxText} {
			wantFault(t, "*"+many(fill, n), api.ErrMuch, 0)
		}
	}
	wantForm(t, " *", 1) // it does not begin with it
	wantForm(t, " *x", 2)
	wantForm(t, "L*", 1)
	wantForm(t, "L *X", 2)
}

// What chapter 9 says is wrong is told, even where something else would be met ahead of it.
func TestJ3Tokens(t *testing.T) {
	for _, line := range []string{
		";", " ;", "x", " X = y", " X = 'a", " X ? [", " X ? ['a", " X ? [ARB", "\t", "X\n", " X = 1\n", "L X = 1 :(m)", "\x00",
		"1 ;", " X Y ;", " ) ;", " 1 = 2 ;", " " + longest + "X ;", " X = 007 'a", " X = 9223372036854775808 [", " F(1,2,3,4,5,6,7,8,9) ;", " X ? [XYZ] ]", ":: ;",
		" X = " + many("(", 401) + ";", " X = " + many("-", 300) + "1 ;",
	} {
		_, fault := lex.Line(line)
		if fault.Err != api.ErrForm {
			t.Errorf("lex.Line %q: fault %v; want one of form", line, fault)
		}
		wantFault(t, line, fault.Err, fault.At)
	}
	for _, line := range []string{many(" ", api.MaxLine+1), many("X", api.MaxLine+1), " X = 1" + many(" ", api.MaxLine), many(";", api.MaxLine+1), many("'", 1<<20)} {
		wantFault(t, line, api.ErrMuch, 0)
	}
	wantLine(t, " X = 1"+many(" ", api.MaxLine-6), assign(name("X"), number(1)))
}

// The end is the line's, with the blanks in it.
func TestJ3FormAtTheEnd(t *testing.T) {
	for _, line := range []string{" X =", " X ?", " P :=", " DEFINE F", " DEFINE F(", " DEFINE F(A", " DEFINE F(A,", " DEFINE F()", " DEFINE F()A,", " DEFINE F()A,B", ":", " :S", ":S(", ":(", ":(M", ":S(M)F", ":S(M)F(N", " X = (", " X = (1", " X = T<", " X = T<1", " X = F(", " X = F(1", " X = F(1,", " X = -", " X = $", " X = 1 +", " X = 1 &", " X = 1 * -"} {
		for n := range 4 {
			wantForm(t, line+many(" ", n), len(line)+n)
		}
	}
}

func TestJ3NeedlessNoughts(t *testing.T) {
	for _, ahead := range []string{"", "(", "-", "$", "T<", "F(", "F(1, ", "1 + ", "'a' & ", "(1 * ", "T<F(-"} {
		for _, n := range []string{"00", "01", "007", "0123456789", "000000000000000000000", "09223372036854775808", many("0", 500)} {
			wantForm(t, " X = "+ahead+n, 5+len(ahead))
			wantForm(t, "L X ? ['a'] = "+ahead+n+" :(M)", 14+len(ahead))
			wantForm(t, " "+ahead+n+" = 1", 1+len(ahead))
		}
	}
	wantValue(t, "0", number(0))
	wantValue(t, "0 + 0", two(api.ExAdd, number(0), number(0)))
	wantValue(t, "100", number(100))
	wantValue(t, "10203040506070809", number(10203040506070809))
	wantForm(t, " X = 0 0", 7)
	wantForm(t, " X 007", 3)
	wantForm(t, " X = 1 007", 7)
	wantForm(t, "007", 0)
}

func TestJ3Numbers(t *testing.T) {
	const most = "9223372036854775807"
	wantValue(t, most, number(1<<63-1))
	wantValue(t, "-"+most, neg(number(1<<63-1)))
	wantValue(t, "9223372036854775806", number(1<<63-2))
	wantValue(t, "1000000000000000000", number(1e18))
	for _, ahead := range []string{"", "(", "-", "$", "T<", "F(", "F(1, ", "1 + ", "'a' & ", "(1 * ", "T<F(-"} {
		for _, n := range []string{"9223372036854775808", "9223372036854775810", "9999999999999999999", "10000000000000000000", "18446744073709551616", "18446744073709551617", "92233720368547758070", "1" + many("0", 1000)} {
			wantFault(t, " X = "+ahead+n, api.ErrRange, 5+len(ahead))
			wantFault(t, "L X ? ['a'] = "+ahead+n+" :(M)", api.ErrRange, 14+len(ahead))
			wantFault(t, " "+ahead+n+" = 1", api.ErrRange, 1+len(ahead))
		}
	}
	wantForm(t, " X 9223372036854775808", 3) // where none can be it can't go on
	wantForm(t, "9223372036854775808", 0)
	wantForm(t, " DEFINE F(9223372036854775808)L", 10)
	wantFault(t, " X = 9223372036854775808 9223372036854775808", api.ErrRange, 5)
}

// Names of MaxName signs and one more, wherever a word is a name.
func TestJ3Names(t *testing.T) {
	if len(longest) != api.MaxName {
		t.Fatalf("%q is not the longest name", longest)
	}
	for _, c := range []struct{ ahead, behind string }{
		{"", ""},
		{"", " X = 1"},
		{" ", ""},
		{" ", " = 1"},
		{" ", "<1> = 1"},
		{" ", "(1)"},
		{" ", " ? ['a']"},
		{" ", " := ['a']"},
		{"L ", " := ['a'] :(M)"},
		{" $", " = 1"},
		{" X = ", ""},
		{" X = -", " + 1"},
		{" X = T<", ">"},
		{" X = F(1, ", ")"},
		{" X = (", ")"},
		{" X ? ['a'] = ", " :(M)"},
		{" DEFINE ", "() L"},
		{" DEFINE F(", ") L"},
		{" DEFINE F(A,", ",B) L"},
		{" DEFINE F(A,B,C,D,E,F,G,", ") L"},
		{" DEFINE F()", ""},
		{" DEFINE F()", ":(M)"},
		{" DEFINE F()", " L"},
		{" DEFINE F()A,", " L"},
		{" DEFINE F()A ", ""},
		{" DEFINE F()A,B ", ":(M)"},
		{" :(", ")"},
		{"L X = 1 :(", ")"},
		{":S(", ")"},
		{":S(", ")F(M)"},
		{":S(M)F(", ")"},
		{":F(", ")"},
	} {
		if _, _, fault := syntax.Line(c.ahead + longest + c.behind); fault.Err != api.OK {
			t.Errorf("Line %q: fault %v; want none", c.ahead+longest+c.behind, fault)
		}
		for _, more := range []string{"X", "0", many("Z", 900)} {
			wantFault(t, c.ahead+longest+more+c.behind, api.ErrName, len(c.ahead))
		}
	}
	for _, c := range []struct { // where a word is no name
		ahead, behind string
	}{
		{" X ", ""},
		{" X = 1 ", ""},
		{" 'a' ", " = 1"},
		{" DEFINE F ", ""},
		{" DEFINE F(A ", ")L"},
		{" DEFINE F()A L ", ""},
		{" P := ", ""},
		{" X ? ", ""},
		{" :", "(M)"},
		{" :(M", ")"},
		{" :S(M) ", ""},
		{" F(1 ", ")"},
	} {
		long := longest + "X"
		if wordsJoin(c.ahead) {
			c.ahead += " "
		}
		wantForm(t, c.ahead+long+c.behind, len(c.ahead))
	}
}

func wordsJoin(ahead string) bool { return isWordy(ahead[len(ahead)-1]) }

// What is wrong with a pattern, at its byte in the line, whatever the kind of statement.
func TestJ3Patterns(t *testing.T) {
	for _, p := range []string{
		"", " ", "   ", "XYZ", "  XYZ", "'a' LEN(99999)", "LEN(03)", "LEN(0", "LEN('a')", "ANY('')", "'a' |", "| 'a'", "()", "('a'", "'a')", "'a' . ", "'a' . 1",
		"'a' . " + longest + "X", "@" + longest + "X", "*" + longest + "X", "'a' ; 'b'", "\x00", "[", "'a' [", "ARB\n", "'' 'it''s' ANY('''') ?",
		nest("(", "ARB", ")", api.MaxDepth+1), nest("ARBNO(", "ARB", ")", api.MaxDepth+1), "'a'" + many(".X", api.MaxDepth), " 'a'" + many(".X", api.MaxDepth),
	} {
		_, fault := pats.Read(p)
		if fault.Err == api.OK {
			t.Errorf("pats.Read %q: no fault", brief(p))
		}
		for _, c := range []struct{ ahead, behind string }{
			{" X ? ", ""},
			{" X ? ", " = 1 :(M)"},
			{"LABEL 'text' & F(1) ? ", " :S(M)"},
			{" P := ", ""},
			{"LABEL  P   :=   ", " :F(M)"},
			{" X ? ", " ;"[:1]},
			{" X ? ", " = "},    // what else is wrong is met behind it
			{" 1 ? ", " = 2"},   // so is that 1 is no target
			{" P := ", " 'a'"},  // so is what can't follow
			{" X ? ", " = 007"}, // and the like
		} {
			wantFault(t, c.ahead+"["+p+"]"+c.behind, fault.Err, len(c.ahead)+1+fault.At)
		}
		wantForm(t, " X = ["+p+"]", 5) // where no pattern can be it is not looked at
		wantForm(t, " X ["+p+"]", 3)
		wantForm(t, " X ? ['a'] ["+p+"]", 11)
		wantForm(t, "["+p+"]", 0)
	}
	for _, p := range []string{nest("(", "ARB", ")", api.MaxDepth), "'a'" + many(".X", api.MaxDepth-1), "  'it''s' | ARBNO( LEN( 65536 ) $ " + longest + " )  "} {
		pat, fault := pats.Read(p)
		if fault.Err != api.OK {
			t.Errorf("pats.Read %q: fault %v", brief(p), fault)
		}
		wantLine(t, " X ? ["+p+"]", match(name("X"), pat))
		wantLine(t, " X ? ["+p+"] = 1", replace(name("X"), pat, number(1)))
		wantLine(t, " P := ["+p+"]", rule("P", pat))
	}
}

func TestJ3Targets(t *testing.T) {
	for _, x := range []string{"1", "'a'", "F()", "F(X)", "-X", "--X", "-1", "X & Y", "X + Y", "X - Y", "X * Y", "X / Y", "X % Y", "$X & Y", "T<1> + 1", "(1)", "(F(X))", "((X & Y))", "-$X", "-(X)", "(X) + (Y)"} {
		for _, ahead := range []string{" ", "   ", "L ", "LABEL   "} {
			for _, value := range []string{"1", "X & Y", "", "007", "9223372036854775808", longest + "X", ")", "= 1", ":(M)", many("(", 401), "['a']"} {
				wantFault(t, ahead+x+" = "+value, api.ErrFit, len(ahead))
				wantFault(t, ahead+x+" ? ['a'] = "+value, api.ErrFit, len(ahead))
			}
			wantForm(t, ahead+x+" ? = 1", len(ahead+x)+3)
			wantForm(t, ahead+x+" ) = 1", len(ahead+x)+1)
			if _, some, fault := syntax.Line(ahead + x); !some || fault.Err != api.OK {
				t.Errorf("Line %q: %v, fault %v", ahead+x, some, fault)
			}
			if _, some, fault := syntax.Line(ahead + x + " ? ['a']"); !some || fault.Err != api.OK {
				t.Errorf("Line %q: %v, fault %v", ahead+x+" ? ['a']", some, fault)
			}
		}
	}
	wantLine(t, " X = 1", assign(name("X"), number(1)))
	wantLine(t, " T<-1> = 1", assign(item("T", neg(number(1))), number(1)))
	wantLine(t, " $(-1) = 1", assign(indirect(neg(number(1))), number(1)))
	wantLine(t, " ((X)) = 1", assign(name("X"), number(1)))
	wantFault(t, " 007 = 1", api.ErrForm, 1) // met ahead of it
	wantFault(t, " F(1,2,3,4,5,6,7,8,9) = 1", api.ErrMany, 19)
}

// digits are the numbers from 1 on with commas between, so many of them.
func digits(n int) string {
	var l []string
	for i := range n {
		l = append(l, string(rune('1'+i)))
	}
	return list(l)
}

// One more than MaxArgs, told where it begins.
func TestJ3Many(t *testing.T) {
	eight := digits(api.MaxArgs)
	for _, ahead := range []string{" ", " X = ", " X = -", " X = (1 & ", " X = T<", " X = G(1, ", " X ? ['a'] = "} {
		for _, ninth := range []string{"9", "X", "'a'", "-1", "$X", "(1", "(007)", "-007", "$" + longest + "X", "(" + many("(", 500), "F(", "F(1,2,3,4,5,6,7,8,9)", "T<", "9 9", "- )", "$ )", "( )", "X)", "9223372036854775807"} {
			line := ahead + "F(" + eight + ", "
			wantFault(t, line+ninth, api.ErrMany, len(line))
			wantFault(t, line+ninth+", 10)", api.ErrMany, len(line))
		}
	}
	// Where its first token is wrong, too, that is told: both are met there, and it is named first.
	line := " F(" + eight + ","
	for _, ninth := range []string{"", " ", ")", ",", ",9)", "*9)", "+9)", "=", "?", ":", ":=", "<", ">", "&", "/", "%", "['a'])", "007)", "00)"} {
		at := len(line)
		if ninth == " " {
			at++
		}
		wantForm(t, line+ninth, at)
	}
	wantFault(t, line+longest+"X)", api.ErrName, len(line))
	wantFault(t, line+"9223372036854775808)", api.ErrRange, len(line))
	wantForm(t, " F("+eight+" 9)", len(line)) // what is wrong ahead of it is met first
	wantForm(t, " F(,"+eight+",9)", 3)
	wantForm(t, " F(1,2,3,4,5,6,7,,8,9)", 17)

	params := " DEFINE F(A,B,C,D,E,F,G,H,"
	wantFault(t, params+"I)L", api.ErrMany, len(params))
	wantFault(t, params+"  I", api.ErrMany, len(params)+2)
	wantFault(t, params+"I 1", api.ErrMany, len(params))
	wantFault(t, params+"I,", api.ErrMany, len(params))
	wantFault(t, params+longest+"X)L", api.ErrName, len(params))
	wantForm(t, params+")L", len(params))
	wantForm(t, params+"1)L", len(params))
	wantForm(t, params, len(params))
	locals := " DEFINE F()A,B,C,D,E,F,G,H,"
	wantFault(t, locals+"I L", api.ErrMany, len(locals))
	wantFault(t, locals+"I", api.ErrMany, len(locals))
	wantFault(t, locals+" I,J", api.ErrMany, len(locals)+1)
	wantFault(t, locals+longest+"X L", api.ErrName, len(locals))
	wantForm(t, locals+" :(M)", len(locals)+1)
	wantForm(t, locals, len(locals))
	wantFault(t, " DEFINE F(A,B,C,D,E,F,G,H,I)A,B,C,D,E,F,G,H,I L", api.ErrMany, 26)
}

// openers are what opens one more, and what shuts it.
var openers = []struct{ open, shut string }{
	{"(", ")"},
	{"T<", ">"},
	{"F(", ")"},
	{"-", ""},
	{"$", ""},
	{"1+(", ")"},
	{"1&(", "+1)"},
}

// whatever is what may come behind something that is open, right or wrong.
var whatever = []string{"X", "1", "'a'", "(", "(X)", "-X", "$X", "F(", "F()", "T<X", "", "*", "=", ")", ">", ",", "007", longest + "X", "9223372036854775808", "['a']", "[XYZ]", ":(M)"}

// What is open at MaxDeep and one more: that is told at what comes next, whatever it is.
func TestJ3Open(t *testing.T) {
	const most = api.MaxDeep - 1 // and the line's own expression
	for _, ahead := range []string{" ", " V = ", " V ? ['a'] = ", "L V = "} {
		for _, c := range openers {
			at := len(ahead) + (most+1)*len(c.open)
			for _, behind := range whatever {
				if c.open == "F(" && behind == ")" { // none of its own is open then
					continue
				}
				line := ahead + many(c.open, most+1) + behind
				if len(line) <= api.MaxLine {
					wantFault(t, line, api.ErrMuch, at)
				}
			}
			line := ahead + nest(c.open, "X", c.shut, most)
			if c.open == "(" || len(line) > api.MaxLine {
				continue
			}
			wantFault(t, line, api.ErrMuch, 0) // so much may be open, but what comes is nested too deep
			wantForm(t, line+" )", len(line)+1)
			wantForm(t, ahead+many(c.open, most), len(ahead)+most*len(c.open))
			wantForm(t, ahead+many(c.open, most)+"*", len(ahead)+most*len(c.open))
		}
	}
	wantLine(t, " "+nest("(", "X", ")", most), eval(name("X")))
	wantLine(t, " "+nest("(", "X", ")", most)+" = "+nest("(", "1", ")", most), assign(name("X"), number(1)))
	wantLine(t, " "+nest("(", "X", ")", most)+" ? ['a'] = "+nest("(", "1", ")", most), replace(name("X"), lit("a"), number(1)))
	wantFault(t, " "+nest("(", "X", ")", most)+" = "+nest("(", "1", ")", most+1), api.ErrMuch, 1+2*most+1+3+most+1)
	wantFault(t, " "+nest("F(", "", ")", most+1), api.ErrMuch, 0)
	wantFault(t, " "+many("F(", most)+"F(1", api.ErrMuch, 1+2*most+2)
	wantFault(t, " "+many("F(1,", most)+"F(1,", api.ErrMuch, 1+4*most+2) // the first one in a call is one, too
	wantFault(t, " "+many("F(1,", most)+"F()", api.ErrForm, 1+4*most+3)
	wantForm(t, " X = "+nest("(", "X", ")", most)+")", 5+2*most+1)
}

// Each kind of what opens together with the others: how many are open is all that counts.
func TestJ3OpenMixed(t *testing.T) {
	d := dice(29)
	for range 300 {
		line, last, at := " X = ", "", 0
		for range api.MaxDeep { // and the line's own
			open := openers[d.below(len(openers))].open
			if last == "$" && open == "-" || (last == "$" || last == "-") && open[0] == '1' { // what would be wrong, or shut it
				open = "("
			}
			at, last = len(line), open
			line += open + many(" ", d.below(2))
		}
		for _, behind := range whatever {
			if len(line+behind) <= api.MaxLine && (last != "F(" || behind != ")") {
				wantFault(t, line+behind, api.ErrMuch, len(line))
			}
		}
		wantForm(t, line[:at], at) // one less
	}
}

// What is shut is not open any more.
func TestJ3Shut(t *testing.T) {
	inner := nest("(", "1", ")", api.MaxDeep-2)
	wantLine(t, " F("+inner+","+inner+")", eval(call("F", number(1), number(1))))
	wantLine(t, " T<"+inner+"> + T<"+inner+">", eval(two(api.ExAdd, item("T", number(1)), item("T", number(1)))))
	wantLine(t, " -"+inner+" + -"+inner, eval(two(api.ExAdd, neg(number(1)), neg(number(1)))))
	wantLine(t, " $"+inner+" + $"+inner, eval(two(api.ExAdd, indirect(number(1)), indirect(number(1)))))
	wantLine(t, " ("+inner+") + ("+inner+")", eval(two(api.ExAdd, number(1), number(1))))
	ahead := " F(" + inner + ",("
	wantFault(t, ahead+inner+"))", api.ErrMuch, len(ahead)+api.MaxDeep-2)
	for _, term := range []struct {
		s string
		x api.Expr
	}{
		{"---1", neg(neg(neg(number(1))))},
		{"$$$1", indirect(indirect(indirect(number(1))))},
		{"(((1)))", number(1)},
		{"T<T<1>>", item("T", item("T", number(1)))},
		{"F(F(1))", call("F", call("F", number(1)))},
		{"F(1,2,3)", call("F", number(1), number(2), number(3))},
	} {
		const n = 190
		want := term.x
		for range n - 1 {
			want = two(api.ExAdd, want, term.x)
		}
		wantValue(t, strings.TrimSuffix(many(term.s+"+", n), "+"), want)
	}
}

// nested is what is nested so deep, as it is written and as it is.
func nested(kind, depth int) (string, api.Expr) {
	s, x := "X", name("X")
	for range depth - 1 {
		switch kind {
		case api.ExItem:
			s, x = "T<"+s+">", item("T", x)
		case api.ExIndirect:
			s, x = "$"+s, indirect(x)
		case api.ExCall:
			s, x = "F(1,"+s+")", call("F", number(1), x)
		case api.ExNeg:
			s, x = "-"+s, neg(x)
		case api.ExCat:
			s, x = "1&("+s+")", two(kind, number(1), x) // on the right
		default:
			s, x = s+between[rank(kind)].sign+"1", two(kind, x, number(1)) // on the left
		}
	}
	return s, x
}

// What is nested at MaxDepth and one deeper.
func TestJ3Nested(t *testing.T) {
	for kind := api.ExItem; kind <= api.ExRem; kind++ {
		deep, x := nested(kind, api.MaxDepth)
		deeper, _ := nested(kind, api.MaxDepth+1)
		wantValue(t, deep, x)
		wantLine(t, " "+deep+" ? ['a']", match(x, lit("a")))
		wantLine(t, " X ? ['a'] = "+deep, replace(name("X"), lit("a"), x))
		wantValue(t, "("+deep+")", x) // brackets make nothing
		for _, ahead := range []string{" ", " V = ", "L ", " V ? ['a'] = "} {
			wantFault(t, ahead+deeper, api.ErrMuch, 0)
			wantFault(t, ahead+deeper+" :(M)", api.ErrMuch, 0)
			wantFault(t, ahead+"T<"+deep+">", api.ErrMuch, 0)
			wantFault(t, ahead+"-("+deep+")", api.ErrMuch, 0)
			wantFault(t, ahead+"1 & ("+deep+")", api.ErrMuch, 0)
			wantForm(t, ahead+deeper+" )", len(ahead+deeper)+1) // what is met on the way is told first
			wantForm(t, ahead+deeper+" :", len(ahead+deeper)+2)
			wantFault(t, ahead+deeper+" & 9223372036854775808", api.ErrRange, len(ahead+deeper)+3)
			wantFault(t, ahead+deeper+" :("+longest+"X)", api.ErrName, len(ahead+deeper)+3)
		}
		if kind == api.ExItem || kind == api.ExIndirect {
			wantLine(t, " "+deep+" = 1", assign(x, number(1)))
			wantLine(t, " "+deep+" ? ['a'] = 1", replace(x, lit("a"), number(1)))
			wantFault(t, " "+deeper+" = 1", api.ErrMuch, 0)
			wantFault(t, " "+deeper+" ? ['a'] = 1", api.ErrMuch, 0)
			wantFault(t, " "+deeper+" = "+longest+"X", api.ErrName, len(deeper)+4)
		} else {
			wantFault(t, " "+deeper+" = 1", api.ErrFit, 1)
		}
	}
}

// Of several that are wrong the one is told that is met first, each against each other one.
func TestJ3MetFirst(t *testing.T) {
	wrong := []struct {
		s   string
		err api.Errno
		at  int
	}{
		{">", api.ErrForm, 0},
		{"*", api.ErrForm, 0},
		{"['a']", api.ErrForm, 0},
		{"1 X", api.ErrForm, 2},
		{"007", api.ErrForm, 0},
		{"(1", api.ErrForm, -1},
		{longest + "X", api.ErrName, 0},
		{"T<" + longest + "X>", api.ErrName, 2},
		{"9223372036854775808", api.ErrRange, 0},
		{"-9223372036854775808", api.ErrRange, 1},
		{"G(1,2,3,4,5,6,7,8,9)", api.ErrMany, 18},
		{"1 + G(1,2,3,4,5,6,7,8,-9)", api.ErrMany, 22},
		{many("(", 401), api.ErrMuch, 399},
	}
	for _, a := range wrong {
		for _, b := range wrong {
			for _, ahead := range []string{" F(", " X = F(", " X = F(1, ", "L X ? ['a'] = F(", " T<"} {
				at := a.at
				if at < 0 { // the comma that follows
					at = len(a.s)
				}
				wantFault(t, ahead+a.s+","+b.s, a.err, len(ahead)+at)
			}
		}
		wantFault(t, " 1 = "+a.s, api.ErrFit, 1)
		wantFault(t, " 1 ? [XYZ] = "+a.s, api.ErrName, 6)
		if a.at >= 0 && a.err != api.ErrMuch {
			wantFault(t, " "+a.s+" = 007", a.err, 1+a.at)
			wantFault(t, " "+a.s+" ? [XYZ]", a.err, 1+a.at)
			wantFault(t, longest+"X "+a.s, api.ErrName, 0)
		}
	}
}

func TestJ3Read(t *testing.T) {
	x := assign(name("X"), number(1))
	l := api.Statement{Label: "L", Kind: api.StEmpty, Always: "L"}
	wantRead(t, "")
	wantRead(t, "\n", empty())
	wantRead(t, "\n\n", empty(), empty())
	wantRead(t, " ", empty())
	wantRead(t, " \n", empty())
	wantRead(t, " X = 1", x)
	wantRead(t, " X = 1\n", x)
	wantRead(t, " X = 1\n\n", x, empty())
	wantRead(t, "\n X = 1", empty(), x)
	wantRead(t, "*x")
	wantRead(t, "*x\n")
	wantRead(t, "*x\n*y\n\n*z", empty())
	wantRead(t, "*x\n X = 1\n\nL :(L)", x, empty(), l)
	wantRead(t, "*x\n X = 1\n\nL :(L)\n", x, empty(), l)
	wantRead(t, " X = 1\n* ) ; 'a\nL :(L)\n X = 1\n", x, l, x)
	wantRead(t, " DEFINE F(A)B L\nL P := ['a']\n X ? [*P] = A & B :F(END)",
		define("F", letters(1), []string{"B"}, "L"),
		api.Statement{Label: "L", Kind: api.StRule, Name: "P", Pat: lit("a")},
		api.Statement{Kind: api.StReplace, Target: name("X"), Pat: api.Pat{Kind: api.PatCall, Name: "P"}, Value: two(api.ExCat, name("A"), name("B")), Noes: "END"})
}

// The line's number of the first error, whatever it is; the byte in the line is not told.
func TestJ3ReadWrong(t *testing.T) {
	for _, c := range []struct {
		line string
		err  api.Errno
	}{
		{" X =", api.ErrForm},
		{";", api.ErrForm},
		{" X = 'a", api.ErrForm},
		{" X = 1\r", api.ErrForm},
		{" X = " + longest + "X", api.ErrName},
		{" X = 9223372036854775808", api.ErrRange},
		{" X ? [LEN(65537)]", api.ErrRange},
		{" X ? [ANY('')]", api.ErrFit},
		{" 1 = 1", api.ErrFit},
		{" F(1,2,3,4,5,6,7,8,9)", api.ErrMany},
		{many(" ", api.MaxLine+1), api.ErrMuch},
		{"*" + many("x", api.MaxLine), api.ErrMuch},
		{" X = " + many("-", api.MaxDepth) + "1", api.ErrMuch},
		{" X = " + many("(", api.MaxDeep), api.ErrMuch},
	} {
		for n := range 5 {
			for _, fill := range []string{"\n", "*remark\n", " X = 1\n", "L :(L)\n"} {
				wantReadFault(t, many(fill, n)+c.line, c.err, n)
				wantReadFault(t, many(fill, n)+c.line+"\n", c.err, n)
				wantReadFault(t, many(fill, n)+c.line+"\n X = 1", c.err, n)
				wantReadFault(t, many(fill, n)+c.line+"\n X = 007\n Y = "+longest+"X\n", c.err, n)
			}
		}
		wantReadFault(t, many("\n", api.MaxLines-1)+c.line, c.err, api.MaxLines-1)
		wantReadFault(t, many("\n", api.MaxLines)+c.line, api.ErrMany, 0)
		wantReadFault(t, c.line+many("\n", api.MaxLines), c.err, 0)
		wantReadFault(t, c.line+many("\n", api.MaxLines+1), api.ErrMany, 0)
	}
	wantReadFault(t, " X = 'a\nb'", api.ErrForm, 0) // a line ends at its line feed, within quotes too
}

// Texts of MaxLines lines and one more, with and without a last line feed; those that tell nothing are counted.
func TestJ3ReadLines(t *testing.T) {
	const n = api.MaxLines
	for _, line := range []string{"", " X = 1", "*x", "*"} {
		s, some, _ := syntax.Line(line)
		for _, k := range []int{1, 2, n - 1, n} {
			var want []api.Statement
			for range k {
				if some {
					want = append(want, s)
				}
			}
			wantRead(t, many(line+"\n", k), want...)
			if line != "" {
				wantRead(t, strings.TrimSuffix(many(line+"\n", k), "\n"), want...)
			}
		}
		wantReadFault(t, many(line+"\n", n+1), api.ErrMany, 0)
		wantReadFault(t, many(line+"\n", n)+" ", api.ErrMany, 0)
		wantReadFault(t, many(line+"\n", n)+"*", api.ErrMany, 0)
		wantReadFault(t, many(line+"\n", n)+";", api.ErrMany, 0)
	}
	wantReadFault(t, ";\n"+many("\n", n), api.ErrMany, 0)
	wantReadFault(t, many("\n", api.MaxText), api.ErrMany, 0)
}

// Texts of MaxText bytes and one more.
func TestJ3ReadBytes(t *testing.T) {
	const n = api.MaxText
	line := " X = 1" + many(" ", 121) + "\n" // 128 bytes
	var want []api.Statement
	for range n / len(line) {
		want = append(want, assign(name("X"), number(1)))
	}
	program := many(line, n/len(line))
	if len(program) != n {
		t.Fatalf("%d bytes, not %d", len(program), n)
	}
	wantRead(t, program, want...)
	wantRead(t, strings.TrimSuffix(program, "\n")+" ", want...)
	wantReadFault(t, program+" ", api.ErrMuch, 0)
	wantReadFault(t, program+"\n", api.ErrMuch, 0)
	wantReadFault(t, ";\n"+program, api.ErrMuch, 0)
	wantReadFault(t, many("\n", n+1), api.ErrMuch, 0) // ahead of that there are too many lines
	wantReadFault(t, many(";", n+1), api.ErrMuch, 0)
	wantReadFault(t, "\n\n"+many(";", n-2), api.ErrMuch, 2) // the line alone is too long
	wantReadFault(t, many("X", 1<<22), api.ErrMuch, 0)
}
