package syntax_test

import (
	"slices"
	"strings"
	"testing"

	"scanfail/api"
	"scanfail/pats"
	"scanfail/syntax"
)

// Each kind of statement, with and without a label and each of the ways on.
func TestJ5EachKind(t *testing.T) {
	a, b := name("A"), name("B")
	cond := api.Pat{Kind: api.PatCond, Name: "X", Kids: []api.Pat{{Kind: api.PatAlt, Kids: []api.Pat{lit("it's"), arb()}}}}
	for _, c := range []struct {
		s    api.Statement
		want string // behind the label
	}{
		{empty(), ""},
		{eval(a), " A"},
		{eval(call("F", a, number(12), text("it's"))), " F(A, 12, 'it''s')"},
		{eval(call("F")), " F()"},
		{assign(a, number(0)), " A = 0"},
		{assign(item("T", two(api.ExAdd, a, number(1))), indirect(b)), " T<A + 1> = $B"},
		{assign(indirect(two(api.ExCat, a, b)), neg(a)), " $(A & B) = -A"},
		{match(a, arb()), " A ? [ARB]"},
		{match(two(api.ExCat, a, b), cond), " A & B ? [('it''s' | ARB) . X]"},
		{replace(a, arb(), text("")), " A ? [ARB] = ''"},
		{replace(item("T", a), cond, two(api.ExSub, a, b)), " T<A> ? [('it''s' | ARB) . X] = A - B"},
		{rule("P", lit("]")), " P := [']']"},
		{rule("P", api.Pat{Kind: api.PatCat, Kids: []api.Pat{lit("["), {Kind: api.PatCall, Name: "P"}}}), " P := ['[' *P]"},
		{define("F", nil, nil, "L"), " DEFINE F() L"},
		{define("F", letters(1), nil, "L"), " DEFINE F(A) L"},
		{define("F", nil, letters(1), "L"), " DEFINE F()A L"},
		{define("F", letters(2), letters(3), "L"), " DEFINE F(A,B)A,B,C L"},
		{define("F", letters(8), letters(8), "L"), " DEFINE F(A,B,C,D,E,F,G,H)A,B,C,D,E,F,G,H L"},
	} {
		for _, label := range []string{"", "L", longest} {
			for _, way := range ways {
				c.s.Label, c.s.Always, c.s.Yes, c.s.Noes = label, way.always, way.yes, way.noes
				want := label + c.want
				if way.text != "" {
					want += " " + way.text
				}
				wantPrint(t, c.s, want)
			}
		}
	}
}

func TestJ5Pieces(t *testing.T) {
	a := name("A")
	wantPrinted(t, number(0), "0")
	wantPrinted(t, number(7), "7")
	wantPrinted(t, number(1<<63-1), "9223372036854775807")
	wantPrinted(t, text(""), "''")
	wantPrinted(t, text("a"), "'a'")
	wantPrinted(t, text("'"), "''''")
	wantPrinted(t, text("it's [so], = \x00\xff\t\r"), "'it''s [so], = \x00\xff\t\r'")
	wantPrinted(t, a, "A")
	wantPrinted(t, name(longest), longest)
	wantPrinted(t, name("DEFINE"), "DEFINE")
	wantPrinted(t, item("T", a), "T<A>")
	wantPrinted(t, item("T", item("T", text("a"))), "T<T<'a'>>")
	wantPrinted(t, call("F"), "F()")
	wantPrinted(t, call("F", a), "F(A)")
	wantPrinted(t, call("F", a, a), "F(A, A)")
	wantPrinted(t, call("F", a, a, a, a, a, a, a, a), "F(A, A, A, A, A, A, A, A)")
	wantPrinted(t, call("F", call("F"), call("F", call("F"))), "F(F(), F(F()))")
	wantPrinted(t, indirect(a), "$A")
	wantPrinted(t, indirect(indirect(a)), "$$A")
	wantPrinted(t, indirect(text("a")), "$'a'")
	wantPrinted(t, indirect(item("T", a)), "$T<A>")
	wantPrinted(t, indirect(call("F", a)), "$F(A)")
	wantPrinted(t, neg(a), "-A")
	wantPrinted(t, neg(neg(a)), "--A")
	wantPrinted(t, neg(neg(neg(number(1)))), "---1")
	wantPrinted(t, neg(indirect(a)), "-$A")
	wantPrinted(t, neg(call("F")), "-F()")
	wantPrinted(t, indirect(neg(a)), "$(-A)") // no piece begins with `-`
	wantPrinted(t, neg(indirect(neg(indirect(a)))), "-$(-$A)")
}

// Just those brackets that are needed: of each sign within each other one, on both sides.
func TestJ5Brackets(t *testing.T) {
	a, b, c := name("A"), name("B"), name("C")
	for _, up := range between {
		for _, low := range between {
			kid := "B " + low.sign + " C"
			left, right := kid, kid
			if low.level < up.level {
				left = "(" + kid + ")"
			}
			if low.level <= up.level {
				right = "(" + kid + ")"
			}
			x := two(low.kind, b, c)
			wantPrinted(t, two(up.kind, x, a), left+" "+up.sign+" A")
			wantPrinted(t, two(up.kind, a, x), "A "+up.sign+" "+right)
			wantPrinted(t, two(up.kind, x, x), left+" "+up.sign+" "+right)
			wantPrinted(t, two(up.kind, neg(x), neg(x)), "-("+kid+") "+up.sign+" -("+kid+")")
			wantPrinted(t, two(up.kind, call("F", x), item("T", x)), "F("+kid+") "+up.sign+" T<"+kid+">")
			wantPrinted(t, two(up.kind, indirect(x), indirect(x)), "$("+kid+") "+up.sign+" $("+kid+")")
		}
		x := two(up.kind, a, b)
		s := "A " + up.sign + " B"
		wantPrinted(t, x, s)
		wantPrinted(t, neg(x), "-("+s+")")
		wantPrinted(t, neg(neg(x)), "--("+s+")")
		wantPrinted(t, indirect(x), "$("+s+")")
		wantPrinted(t, item("T", x), "T<"+s+">")
		wantPrinted(t, call("F", x), "F("+s+")")
		wantPrinted(t, call("F", x, x, x), "F("+s+", "+s+", "+s+")")
		wantPrinted(t, two(up.kind, neg(a), neg(b)), "-A "+up.sign+" -B")
		wantPrinted(t, two(up.kind, neg(neg(a)), indirect(b)), "--A "+up.sign+" $B")
		wantPrint(t, match(x, arb()), " "+s+" ? [ARB]")
		wantPrint(t, assign(item("T", x), x), " T<"+s+"> = "+s)
		wantPrint(t, assign(indirect(x), x), " $("+s+") = "+s)
	}
}

// full is x with brackets around each kid.
func full(x api.Expr) string {
	kid := func(i int) string { return "(" + full(x.Kids[i]) + ")" }
	switch x.Kind {
	case api.ExText:
		return pats.Quote(x.Text)
	case api.ExNumber:
		return digitsOf(x.N)
	case api.ExName:
		return x.Name
	case api.ExItem:
		return x.Name + "<" + kid(0) + ">"
	case api.ExCall:
		var l []string
		for i := range x.Kids {
			l = append(l, kid(i))
		}
		return x.Name + "(" + strings.Join(l, ", ") + ")"
	case api.ExIndirect:
		return "$" + kid(0)
	case api.ExNeg:
		return "-" + kid(0)
	}
	return kid(0) + " " + between[rank(x.Kind)].sign + " " + kid(1)
}

func digitsOf(n int64) string {
	if n < 10 {
		return string(rune('0' + n))
	}
	return digitsOf(n/10) + digitsOf(n%10)
}

// shutBy is where the bracket is shut that is open at a byte, in a text without any in quotes.
func shutBy(s string, at int) int {
	open := 0
	for i := at; i < len(s); i++ {
		switch s[i] {
		case '(':
			open++
		case ')':
			open--
		}
		if open == 0 {
			return i
		}
	}
	return -1
}

// fewest takes away one pair of brackets after the other without which the same is read.
func fewest(s string, want api.Expr) string {
	for i := 0; i < len(s); i++ {
		if s[i] != '(' {
			continue
		}
		j := shutBy(s, i)
		less := s[:i] + s[i+1:j] + s[j+1:]
		if got, _, fault := syntax.Line(" " + less); fault.Err == api.OK && same(got, eval(want)) {
			s = less
			i--
		}
	}
	return s
}

// mixed is some expression with nothing wrong, at most so deep, without brackets in texts.
func mixed(d *dice, depth int) api.Expr {
	kind := 1 + d.below(13)
	least, most := kidsOf(kind)
	if depth == 1 && least > 0 {
		kind, least, most = api.ExName, 0, 0
	}
	if depth == 1 {
		most = 0
	}
	x := api.Expr{Kind: kind}
	switch kind {
	case api.ExText:
		x.Text = []string{"", "a", "'", "it's", "+ & -", "\x00\xff"}[d.below(6)]
	case api.ExNumber:
		x.N = []int64{0, 1, 10, 907, 1<<63 - 1}[d.below(5)]
	case api.ExName, api.ExItem, api.ExCall:
		x.Name = []string{"A", "X", "DEFINE", "S", "Z9", longest}[d.below(6)]
	}
	for range least + d.below(min(most-least, 3)+1) {
		x.Kids = append(x.Kids, mixed(d, depth-1))
	}
	return x
}

// What is written has the fewest brackets with which the same is read.
func TestJ5FewestBrackets(t *testing.T) {
	d := dice(10)
	for range 1500 {
		x := mixed(&d, 2+d.below(4))
		if len(full(x)) < 700 {
			wantPrinted(t, x, fewest(full(x), x))
		}
	}
}

// A pattern is written as chapter 4 writes it.
func TestJ5Patterns(t *testing.T) {
	for _, s := range []string{"'a'", "LEN(3)", "('a' | 'b') 'c'", "'a' 'b' | 'c' . X $ Y", "ARBNO('a' | ARB)", "@X *P", "']'", "'['", "'it''s'", "ANY(''']''')", "FENCE ABORT FAIL"} {
		p, fault := pats.Read(s)
		if fault.Err != api.OK {
			t.Fatalf("pats.Read %q: %v", s, fault)
		}
		wantPrint(t, match(name("X"), p), " X ? ["+s+"]")
		wantPrint(t, replace(name("X"), p, number(1)), " X ? ["+s+"] = 1")
		wantPrint(t, rule("X", p), " X := ["+s+"]")
	}
}

// alt is a pattern of so many alternatives of empty texts: it is written in 5n - 3 bytes.
func alt(n int) api.Pat {
	return api.Pat{Kind: api.PatAlt, Kids: slices.Repeat([]api.Pat{lit("")}, n)}
}

// What has a line feed.
func TestJ5LineFeeds(t *testing.T) {
	x, feed := name("X"), "a\nb"
	for _, bad := range []api.Expr{text("\n"), text(feed), text("\n\n\n"), neg(text(feed)), call("F", x, text(feed)), two(api.ExAdd, x, text(feed)), item("T", text(feed)), indirect(text(feed))} {
		wantNoPrint(t, "StEval", eval(bad), api.ErrForm)
		wantNoPrint(t, "StAssign", assign(x, bad), api.ErrForm)
		wantNoPrint(t, "StMatch", match(bad, arb()), api.ErrForm)
		wantNoPrint(t, "StReplace", replace(x, arb(), bad), api.ErrForm)
		wantNoPrint(t, "StAssign's target", assign(item("T", bad), x), api.ErrForm)
		wantNoPrint(t, "StReplace's target", replace(indirect(bad), arb(), x), api.ErrForm)
	}
	for _, p := range []api.Pat{lit("\n"), lit(feed), {Kind: api.PatAny, Text: feed}, {Kind: api.PatArbno, Kids: []api.Pat{lit(feed)}}} {
		wantNoPrint(t, "StMatch's pattern", match(x, p), api.ErrForm)
		wantNoPrint(t, "StReplace's pattern", replace(x, p, x), api.ErrForm)
		wantNoPrint(t, "StRule's pattern", rule("P", p), api.ErrForm)
	}
	wantPrinted(t, text("\r\t\x0b\x00"), "'\r\t\x0b\x00'") // nothing else ends a line
	// It is told ahead of that the line is too long, wherever in it.
	long := many("x", api.MaxLine)
	for _, s := range []string{long + "\n", "\n" + long, long + "\n" + long, many("\n", api.MaxText-2)} {
		wantNoPrint(t, "long", eval(text(s)), api.ErrForm)
		wantNoPrint(t, "long, below", eval(call("F", text(long), text(long), two(api.ExCat, text(long), text(s)))), api.ErrForm)
		wantNoPrint(t, "long, in a pattern", match(text(long), lit(s)), api.ErrForm)
		wantNoPrint(t, "long, and a pattern", match(text(s), lit(long)), api.ErrForm)
		wantNoPrint(t, "long, in a value", replace(item("T", text(long)), lit(long), text(s)), api.ErrForm)
	}
	// What chapter 4 says of the pattern is told ahead of both.
	tooLong := lit(many("'", api.MaxText))
	wantNoPrint(t, "a pattern that is too long", match(text(feed), tooLong), api.ErrMuch)
	wantNoPrint(t, "a pattern that is too long", replace(x, tooLong, text(feed)), api.ErrMuch)
	wantNoPrint(t, "a pattern that is too long", rule("P", tooLong), api.ErrMuch)
	wantNoPrint(t, "a pattern that is too long, with a line feed", rule("P", lit(many("'", api.MaxText-1)+"\n")), api.ErrMuch)
	wantNoPrint(t, "a pattern that is not, with a line feed", rule("P", lit(many("'", api.MaxText/2-2)+"\n")), api.ErrForm)
	wantNoPrint(t, "a text that is as long", eval(text(many("'", api.MaxText-1)+"\n")), api.ErrForm)
}

// What comes out as long as MaxLine, and longer.
func TestJ5Long(t *testing.T) {
	x := name("X")
	for _, c := range []struct {
		make   func(s string) api.Statement
		beside int // bytes beside those of the text
	}{
		{func(s string) api.Statement { return eval(text(s)) }, 3},
		{func(s string) api.Statement { return assign(x, text(s)) }, 7},
		{func(s string) api.Statement { return assign(item("T", text(s)), x) }, 10},
		{func(s string) api.Statement { return match(text(s), arb()) }, 11},
		{func(s string) api.Statement { return match(x, lit(s)) }, 9},
		{func(s string) api.Statement { return replace(x, lit(s), x) }, 13},
		{func(s string) api.Statement { return replace(x, arb(), text(s)) }, 15},
		{func(s string) api.Statement { return rule("X", lit(s)) }, 10},
		{func(s string) api.Statement { return eval(call("F", text(s), neg(x))) }, 10},
		{func(s string) api.Statement {
			return api.Statement{Label: longest, Kind: api.StEval, Value: text(s), Yes: longest, Noes: longest}
		}, 59},
	} {
		for _, fill := range []string{"a", "\xff", "]", "("} {
			s := c.make(many(fill, api.MaxLine-c.beside))
			line, err := syntax.Print(s)
			if err != api.OK || len(line) != api.MaxLine {
				t.Errorf("Print: %d bytes, error %d; want %d", len(line), err, api.MaxLine)
			}
			wantLine(t, line, s)
			for _, more := range []int{1, 2, 3, 10, 2000, 60000} {
				wantNoPrint(t, "a long line", c.make(many(fill, api.MaxLine-c.beside+more)), api.ErrMuch)
			}
		}
		quotes := (api.MaxLine - c.beside) / 2 // each is written twice
		s := c.make(many("'", quotes))
		line, err := syntax.Print(s)
		if err != api.OK || len(line) != c.beside+2*quotes {
			t.Errorf("Print: %d bytes, error %d; want %d", len(line), err, c.beside+2*quotes)
		}
		wantLine(t, line, s)
		wantNoPrint(t, "a long line of quotes", c.make(many("'", quotes+1)), api.ErrMuch)
	}
	for n := range 40 { // of two texts the second one begins wherever it may
		a, b := text(many("a", 50*n)), text(many("b", api.MaxLine-10-50*n))
		wantPrint(t, eval(call("F", a, b)), " F('"+a.Text+"', '"+b.Text+"')")
		b.Text += "b"
		wantNoPrint(t, "two texts", eval(call("F", a, b)), api.ErrMuch)
	}
	wantPrint(t, eval(call("F", text(many("a", api.MaxLine-10)), text(""))), " F('"+many("a", api.MaxLine-10)+"', '')")
	wantNoPrint(t, "a long text", eval(text(many("a", api.MaxText))), api.ErrMuch)
	wantNoPrint(t, "a long pattern", rule("P", alt(400)), api.ErrMuch)
	// ` P := [` and `]` are 8 bytes.
	line, err := syntax.Print(rule("P", alt(399)))
	if err != api.OK || len(line) != 8+5*399-3 {
		t.Errorf("Print: %d bytes, error %d", len(line), err)
	}
	wantLine(t, line, rule("P", alt(399)))
	wantNoPrint(t, "many nodes", eval(bushy(api.MaxNodes)), api.ErrMuch)
	wantNoPrint(t, "two of many nodes", assign(item("T", bushy(api.MaxNodes-1)), bushy(api.MaxNodes)), api.ErrMuch)
}

// Many long texts are more than memory would hold, were all of them written out.
func TestJ5Huge(t *testing.T) {
	leaf := text(many("'", api.MaxText))
	var grow func(n int) api.Expr
	grow = func(n int) api.Expr {
		if n == 1 {
			return leaf
		}
		return two(api.ExCat, grow(n/2), grow(n-n/2))
	}
	wantNoPrint(t, "2048 long texts", eval(grow(2048)), api.ErrMuch)
	leaf.Text = leaf.Text[1:] + "\n"
	wantNoPrint(t, "2048 long texts with line feeds", eval(grow(2048)), api.ErrForm)
	p := api.Pat{Kind: api.PatAlt, Kids: slices.Repeat([]api.Pat{lit(many("'", api.MaxText))}, 4000)}
	wantNoPrint(t, "4000 long patterns", rule("P", p), api.ErrMuch)
}

// What is nested as deep as may be is written so that it is read.
func TestJ5Deep(t *testing.T) {
	d := dice(4)
	for range 200 {
		x := name("X")
		for range api.MaxDepth - 1 {
			switch d.below(8) {
			case 0, 1:
				x = indirect(x)
			case 2, 3:
				x = neg(x)
			case 4:
				x = item("T", x)
			case 5:
				x = call("F", x)
			case 6:
				x = two(api.ExSub, x, number(1))
			case 7:
				x = two(api.ExDiv, number(1), x)
			}
		}
		line, err := syntax.Print(eval(x))
		if err != api.OK {
			t.Fatalf("Print: error %d", err)
		}
		wantLine(t, line, eval(x))
	}
	for _, grow := range []func(x api.Expr) api.Expr{
		func(x api.Expr) api.Expr { return indirect(neg(x)) },
		func(x api.Expr) api.Expr { return indirect(two(api.ExCat, x, x)) },
	} {
		x := name("X")
		for range 9 {
			x = grow(x)
		}
		if line, err := syntax.Print(eval(x)); err == api.OK {
			wantLine(t, line, eval(x))
		} else if err != api.ErrMuch {
			t.Errorf("Print: error %d", err)
		}
	}
	x := name("X")
	for range (api.MaxDepth - 1) / 2 {
		x = indirect(neg(x))
	}
	wantPrint(t, eval(x), " "+nest("$(-", "X", ")", (api.MaxDepth-1)/2))
}

func TestJ5Show(t *testing.T) {
	x := assign(name("X"), number(1))
	l := api.Statement{Label: "L", Kind: api.StEmpty, Always: "L"}
	wantShow(t, nil, "")
	wantShow(t, []api.Statement{}, "")
	wantShow(t, []api.Statement{empty()}, "\n")
	wantShow(t, []api.Statement{x}, " X = 1\n")
	wantShow(t, []api.Statement{x, empty(), l}, " X = 1\n\nL :(L)\n")
	wantShow(t, slices.Repeat([]api.Statement{empty()}, api.MaxLines), many("\n", api.MaxLines))
	wantShow(t, slices.Repeat([]api.Statement{x}, api.MaxLines), many(" X = 1\n", api.MaxLines))
	for _, n := range []int{api.MaxLines + 1, api.MaxLines + 2, 100000} {
		wantShowFault(t, "too many", slices.Repeat([]api.Statement{x}, n), api.ErrMany, 0)
		wantShowFault(t, "too many that are wrong", make([]api.Statement, n), api.ErrMany, 0)
	}
	// What is read of it is the same again.
	all := sound()
	program, fault := syntax.Show(all)
	if fault != (api.Fault{}) {
		t.Errorf("Show: fault %v", fault)
	}
	wantRead(t, program, all...)
}

// The first one's error, at its number.
func TestJ5ShowWrong(t *testing.T) {
	wrong := []struct {
		s   api.Statement
		err api.Errno
	}{
		{api.Statement{}, api.ErrKind},
		{api.Statement{Kind: api.StEmpty, Always: "A", Yes: "B"}, api.ErrFit},
		{rule("", arb()), api.ErrName},
		{eval(number(-1)), api.ErrRange},
		{eval(neg(text("\n"))), api.ErrForm},
		{eval(text(many("a", api.MaxLine))), api.ErrMuch},
		{define("F", letters(9), nil, "L"), api.ErrMany},
	}
	for _, a := range wrong {
		for _, b := range wrong {
			for n := range 4 {
				l := slices.Repeat([]api.Statement{eval(name("X"))}, n)
				wantShowFault(t, "one that is wrong", append(l, a.s), a.err, n)
				wantShowFault(t, "two that are wrong", append(l, a.s, b.s), a.err, n)
				wantShowFault(t, "one between", append(l, a.s, empty(), b.s), a.err, n)
			}
		}
		l := slices.Repeat([]api.Statement{empty()}, api.MaxLines-1)
		wantShowFault(t, "the last one wrong", append(l, a.s), a.err, api.MaxLines-1)
		wantShowFault(t, "one more", append(l, empty(), a.s), api.ErrMany, 0)
	}
}

// What comes out as long as MaxText, and longer.
func TestJ5ShowLong(t *testing.T) {
	line := eval(text(many("a", 1020))) // 1024 bytes with its line feed
	l := slices.Repeat([]api.Statement{line}, api.MaxText/1024)
	program, fault := syntax.Show(l)
	if fault != (api.Fault{}) || len(program) != api.MaxText {
		t.Fatalf("Show: %d bytes, fault %v; want %d", len(program), fault, api.MaxText)
	}
	wantRead(t, program, l...)
	wantShowFault(t, "one more line", append(l, empty()), api.ErrMuch, 0)
	l[5] = eval(text(many("a", 1021)))
	wantShowFault(t, "one more byte", l, api.ErrMuch, 0)
	wantShowFault(t, "one more byte, and one that is wrong", append(l, api.Statement{}), api.ErrKind, len(l))
	l[5] = eval(text(many("a", 1019)))
	if program, fault := syntax.Show(l); fault != (api.Fault{}) || len(program) != api.MaxText-1 {
		t.Errorf("Show: %d bytes, fault %v; want %d", len(program), fault, api.MaxText-1)
	}
	l[5] = eval(text(many("a", 1018)))
	l = append(l, empty())
	if program, fault := syntax.Show(l); fault != (api.Fault{}) || len(program) != api.MaxText-1 {
		t.Errorf("Show: %d bytes, fault %v; want %d", len(program), fault, api.MaxText-1)
	}
	wantShowFault(t, "1000 of the longest lines", slices.Repeat([]api.Statement{eval(text(many("a", api.MaxLine-3)))}, api.MaxLines), api.ErrMuch, 0)
}

// What is written is read again as it was, and written again likewise.
func TestJ5ReadAgain(t *testing.T) {
	d := dice(77)
	for range 4000 {
		s := someStatement(&d)
		line, err := syntax.Print(s)
		if err == api.ErrMuch && len(full(s.Value))+len(full(s.Target)) > 1000 {
			continue
		}
		if err != api.OK {
			t.Fatalf("Print of %s: error %d", tell(s), err)
		}
		wantLine(t, line, s)
		wantPrint(t, s, line)
	}
}

// someStatement is some statement with nothing wrong, and nothing in it that its kind does not name.
func someStatement(d *dice) api.Statement {
	labels := []string{"", "A", "L1", "END", longest}
	label := func() string { return labels[d.below(len(labels))] }
	full := func() string { return labels[1+d.below(len(labels)-1)] }
	names := func() []string {
		var l []string
		for range d.below(9) {
			l = append(l, full())
		}
		return l
	}
	somePats := []api.Pat{arb(), lit("it's"), lit("]"), alt(3), {Kind: api.PatCond, Name: "X", Kids: []api.Pat{alt(2)}}, {Kind: api.PatSpan, Text: "[']"}}
	s := api.Statement{Label: label(), Kind: 1 + d.below(7)}
	x, p := mixed(d, 1+d.below(5)), somePats[d.below(len(somePats))]
	to := []api.Expr{name(full()), item("T", mixed(d, 3)), indirect(mixed(d, 3))}[d.below(3)]
	switch s.Kind {
	case api.StEval:
		s.Value = x
	case api.StAssign:
		s.Target, s.Value = to, x
	case api.StMatch:
		s.Value, s.Pat = x, p
	case api.StReplace:
		s.Target, s.Pat, s.Value = to, p, x
	case api.StRule:
		s.Name, s.Pat = full(), p
	case api.StDefine:
		s.Name, s.Params, s.Locals, s.Entry = full(), names(), names(), full()
	}
	if d.below(2) == 0 {
		s.Always = label()
	} else {
		s.Yes, s.Noes = label(), label()
	}
	return s
}
