package check_test

import (
	"slices"
	"strings"
	"testing"

	"scanfail/api"
	"scanfail/check"
	"scanfail/syntax"
)

func TestK2MaxLines(t *testing.T) {
	wantGood(t, nil)
	wantGood(t, some(1))
	wantGood(t, some(api.MaxLines))
	for _, n := range []int{api.MaxLines + 1, api.MaxLines + 2, 5000} {
		wantFault(t, some(n), api.ErrMany, 0)
	}
	// Whatever else is wrong, and wherever.
	for _, s := range []api.Statement{{}, labelled("END", empty()), always(empty(), "L"), eval(call("F")), eval(endless(api.ExAdd, 2)), labelled("a", empty())} {
		for _, at := range []int{0, 1, 500, api.MaxLines - 1, api.MaxLines} {
			l := some(api.MaxLines + 1)
			l[at] = s
			wantFault(t, l, api.ErrMany, 0)
		}
	}
	for _, at := range []int{0, 1, 500, api.MaxLines - 1} {
		l := some(api.MaxLines)
		l[at] = api.Statement{}
		wantFault(t, l, api.ErrKind, at)
		l[at] = labelled("RETURN", empty())
		wantFault(t, l, api.ErrName, at)
		l[at] = always(empty(), "L")
		wantFault(t, l, api.ErrNone, at)
		l[at] = eval(call("SIZE"))
		wantFault(t, l, api.ErrMany, at)
	}
}

// wrongOnes are statements that are wrong by themselves, with what is wrong with them.
func wrongOnes() map[api.Errno][]api.Statement {
	long := text(strings.Repeat("a", api.MaxText+1))
	deep := number(1)
	for range api.MaxDepth {
		deep = neg(deep)
	}
	nine := letters(api.MaxArgs + 1)
	return map[api.Errno][]api.Statement{
		api.ErrKind:  {{}, {Kind: 8}, {Kind: -1}, eval(api.Expr{}), eval(neg(api.Expr{Kind: 14})), match(api.Expr{}), {Kind: api.StMatch, Value: number(1)}, assign(name("X"), api.Expr{}), {Kind: api.StRule, Name: "P"}},
		api.ErrName:  {labelled("a", empty()), always(empty(), "1"), onYes(empty(), " "), onNoes(eval(number(1)), "L M"), eval(call("")), eval(call("f")), rule(""), define("", nil, nil, "L"), define("F", []string{"a"}, nil, "L"), define("F", nil, []string{""}, "L"), define("F", nil, nil, "")},
		api.ErrMuch:  {eval(long), eval(deep), eval(endless(api.ExCall, 1)), eval(endless(api.ExCall, 8)), match(endless(api.ExAdd, 2)), assign(name("X"), endless(api.ExCat, 2)), assign(item("X", deep), number(1)), replace(endless(api.ExItem, 1), number(1)), {Kind: api.StRule, Name: "P", Pat: endlessPat()}},
		api.ErrMany:  {eval(calling("F", 9)), assign(name("X"), call("SIZE", calling("SIZE", 9))), define("F", nine, nil, "L"), define("F", nil, nine, "L")},
		api.ErrFit:   {assign(number(1), number(1)), assign(call("SIZE", number(1)), number(1)), replace(text("a"), number(1)), onYes(always(empty(), "L"), "L"), onNoes(always(empty(), "END"), "END")},
		api.ErrRange: {eval(number(-1)), assign(item("X", number(-9)), number(1)), {Kind: api.StMatch, Value: number(1), Pat: api.Pat{Kind: api.PatLen, N: -1}}},
	}
}

// What is wrong with a statement by itself is told at its number, ahead of all that hangs on others.
func TestK2WrongByThemselves(t *testing.T) {
	hanging := []api.Statement{
		labelled("END", empty()), labelled("L", empty()), labelled("L", empty()), define("SIZE", []string{"X", "X"}, nil, "M"), define("F", []string{"INPUT"}, nil, "M"), define("F", nil, nil, "M"),
		always(empty(), "M"), onYes(empty(), "M"), onNoes(empty(), "M"), eval(call("NOBODY")), eval(call("SIZE")), assign(item("X", call("NOBODY")), call("SIZE")),
	}
	for want, l := range wrongOnes() {
		for _, s := range l {
			if err := syntax.Wrong(s); err != want {
				t.Fatalf("Wrong of %s: error %d; want %d", tell([]api.Statement{s}), err, want)
			}
			wantFault(t, []api.Statement{s}, want, 0)
			wantFault(t, []api.Statement{empty(), s, empty()}, want, 1)
			wantFault(t, join(hanging, []api.Statement{s}), want, len(hanging))
			wantFault(t, join(hanging, []api.Statement{s, {}}, hanging), want, len(hanging))
			wantFault(t, join([]api.Statement{s}, hanging), want, 0)
		}
	}
}

// Of several that are wrong by themselves the first one is told.
func TestK2FirstWrong(t *testing.T) {
	all := wrongOnes()
	for a, l := range all {
		for b, m := range all {
			x, y := l[len(l)-1], m[len(m)-1]
			wantFault(t, []api.Statement{empty(), x, y}, a, 1)
			wantFault(t, []api.Statement{y, x}, b, 0)
		}
	}
}

func TestK2LabelsThatLeadOut(t *testing.T) {
	for _, label := range []string{"END", "RETURN", "FRETURN"} {
		for _, s := range eachKind() {
			l := []api.Statement{labelled("L", empty()), labelled(label, s)}
			wantFault(t, l, api.ErrName, 1)
			wantFault(t, append(l, labelled(label, empty()), labelled("L", empty())), api.ErrName, 1)
			wantFault(t, slices.Insert(slices.Clone(l), 0, empty()), api.ErrName, 2)
		}
		wantFault(t, program(t, label+" X = 1"), api.ErrName, 0)
		wantFault(t, program(t, label+" :("+label+")"), api.ErrName, 0)
	}
	for _, label := range strings.Fields("E EN ENDS END1 FEND RETUR RETURNS RETURN0 NRETURN FRETUR FFRETURN FRETURNS INPUT OUTPUT DEFINE SIZE EQ S F X ERROR ABORT START") {
		wantGood(t, program(t, label+" :("+label+")"))
	}
}

func TestK2LabelsTwice(t *testing.T) {
	for _, c := range []struct {
		labels string // one each, - if it has none
		at     int    // where it stands again, or -1
	}{
		{"A A", 1}, {"A B A", 2}, {"A B B A", 2}, {"A A A", 1}, {"- A - A", 3}, {"A B C D", -1}, {"- -", -1}, {"- A - B - -", -1}, {"A AA AAA", -1}, {"A A1 A2", -1}, {"B A A B", 2}, {"A B C B A", 3},
	} {
		for _, s := range eachKind()[:6] {
			var l []api.Statement
			for _, label := range strings.Fields(c.labels) {
				l = append(l, labelled(strings.Trim(label, "-"), s))
			}
			if c.at < 0 {
				wantGood(t, l)
			} else {
				wantFault(t, l, api.ErrName, c.at)
			}
		}
	}
	wantFault(t, program(t, "F DEFINE F() L", "L", "F"), api.ErrName, 2)
	// The longest names, which differ in the last sign alone.
	wantGood(t, program(t, "ABCDEFGHIJKLMN01", "ABCDEFGHIJKLMN02"))
	wantFault(t, program(t, "ABCDEFGHIJKLMN01", "ABCDEFGHIJKLMN02", "ABCDEFGHIJKLMN01"), api.ErrName, 2)
}

func TestK2DefinesOfTheLanguage(t *testing.T) {
	for s := range takes() {
		l := program(t, "L", " DEFINE "+s+"(X) L")
		wantFault(t, l, api.ErrName, 1)
		// Among other names they mean nothing.
		wantGood(t, program(t, " DEFINE F("+s+")G L", "L"))
		wantGood(t, program(t, " DEFINE F(G)"+s+" L", "L"))
		wantGood(t, program(t, " DEFINE F() "+s, s+" "+s+" = 1 :("+s+")"))
	}
	for _, s := range strings.Fields("X SIZES SIZ TRIMS EQS END RETURN FRETURN DEFINE L F") {
		wantGood(t, program(t, "L", " DEFINE "+s+"(Y) L"))
	}
}

func TestK2DefinesTwice(t *testing.T) {
	for _, c := range []struct {
		names string
		at    int
	}{
		{"F F", 1}, {"F G F", 2}, {"F G G F", 2}, {"F F F", 1}, {"F G H", -1}, {"F FF F1", -1},
	} {
		l := []api.Statement{labelled("L", empty())}
		for i, s := range strings.Fields(c.names) {
			l = append(l, define(s, letters(i), nil, "L"))
		}
		if c.at < 0 {
			wantGood(t, l)
		} else {
			wantFault(t, l, api.ErrName, c.at+1)
		}
	}
	// Only a StDefine's Name is one: neither a rule's, nor a label, nor a variable, nor another one's Params and Locals.
	wantGood(t, program(t, "F F := [ARB]", " F = F & F<1>", " DEFINE F(G)H F", " DEFINE G(F)H F", " DEFINE H(G)F F", " F := ['a']"))
	l := []api.Statement{labelled("L", empty()), define("F", nil, nil, "L")}
	for _, s := range eachKind()[:6] {
		s.Name = "F"
		wantGood(t, append(l, s))
	}
}

func TestK2DefinesOfInputAndOutput(t *testing.T) {
	for _, s := range []string{"INPUT", "OUTPUT"} {
		for _, l := range [][]api.Statement{
			{define(s, nil, nil, "L")},
			{define(s, []string{"A"}, []string{"B"}, "L")},
			{define("F", []string{s}, nil, "L")},
			{define("F", []string{"A", "B", s}, nil, "L")},
			{define("F", []string{"A", s, "B"}, []string{"C"}, "L")},
			{define("F", nil, []string{s}, "L")},
			{define("F", []string{"A"}, []string{"B", "C", s}, "L")},
			{define("F", append(letters(5), "G", "H", s), []string{"I"}, "L")},
			{define("F", []string{"A"}, append([]string{s}, "B"), "L")},
		} {
			wantFault(t, join(l, []api.Statement{labelled("L", empty())}), api.ErrName, 0)
			wantFault(t, join([]api.Statement{labelled("L", empty())}, l), api.ErrName, 1)
		}
		// As labels and Entry they mean nothing, nor as variables elsewhere.
		wantGood(t, program(t, " DEFINE F(A)B "+s, s+" "+s+" = "+s+" :("+s+")"))
		for _, near := range []string{s + "S", s[1:], s[:len(s)-1], s + "1"} {
			wantGood(t, program(t, "L", " DEFINE F("+near+") L"))
			wantGood(t, program(t, "L", " DEFINE F()"+near+" L"))
			wantGood(t, program(t, "L", " DEFINE "+near+"() L"))
		}
	}
}

func TestK2NamesTwiceInDefine(t *testing.T) {
	for _, line := range []string{
		" DEFINE F(F) L", " DEFINE F()F L", " DEFINE F(A,F) L", " DEFINE F(A)B,F L", " DEFINE F(A,A) L", " DEFINE F(A,B,A) L", " DEFINE F(A,B,C,D,E,G,H,A) L",
		" DEFINE F()A,A L", " DEFINE F()A,B,C,B L", " DEFINE F(A)A L", " DEFINE F(A,B)C,B L", " DEFINE F(A,B,C,D,E,G,H,I)J,K,M,N,O,P,Q,I L", " DEFINE F(A,B,C,D,E,G,H,I)J,K,M,N,O,P,Q,J L", " DEFINE F(A)A,F L",
	} {
		wantFault(t, program(t, line, "L"), api.ErrName, 0)
		wantFault(t, program(t, "L", " DEFINE G(A,B)F,C L", line), api.ErrName, 2)
	}
	for _, line := range []string{
		" DEFINE F() L", " DEFINE F(L) L", " DEFINE F()L L", " DEFINE F(A,B)C,D L", " DEFINE F(A,AA)AAA,A1 L", " DEFINE L() L", " DEFINE F(A,B,C,D,E,G,H,I)J,K,M,N,O,P,Q,R L", " DEFINE F(END,RETURN)FRETURN,DEFINE L",
	} {
		wantGood(t, program(t, line, "L"))
		wantGood(t, program(t, "L", " DEFINE Z9(A,B)C,D,F L", line))
	}
	// What another kind has there means nothing.
	for _, s := range eachKind()[:6] {
		s.Name, s.Params, s.Locals, s.Entry = "OUTPUT", []string{"A", "A", "INPUT", "", "a"}, append(letters(12), "OUTPUT"), "NOWHERE"
		if s.Kind == api.StRule {
			wantGood(t, []api.Statement{s, s})
			s.Name = "SIZE"
		}
		wantGood(t, []api.Statement{s, s})
	}
}

// waysOn are the three ways to go on.
var waysOn = []func(api.Statement, string) api.Statement{always, onYes, onNoes}

func TestK2WaysToNowhere(t *testing.T) {
	for _, s := range eachKind() {
		there := labelled("L", empty())
		for _, way := range waysOn {
			l := []api.Statement{there, way(s, "M")}
			wantFault(t, l, api.ErrNone, 1)
			wantFault(t, []api.Statement{way(s, "M"), there}, api.ErrNone, 0)
			wantGood(t, append(l, labelled("M", empty())))
			wantGood(t, []api.Statement{labelled("M", empty()), there, way(s, "M")})
			wantGood(t, []api.Statement{there, labelled("M", way(s, "M"))})
			wantGood(t, []api.Statement{there, way(s, "L")})
			for _, out := range []string{"END", "RETURN", "FRETURN"} {
				wantGood(t, []api.Statement{there, way(s, out)})
				wantGood(t, []api.Statement{way(s, out), there})
			}
			for _, near := range strings.Fields("ENDS EN RETURNS FRETUR NRETURN F P X A B INPUT OUTPUT SIZE DEFINE LL L1") {
				wantFault(t, []api.Statement{there, way(s, near)}, api.ErrNone, 1)
			}
		}
		both := onNoes(onYes(s, "L"), "L")
		wantGood(t, []api.Statement{there, both})
		wantGood(t, []api.Statement{there, onNoes(both, "END")})
		wantFault(t, []api.Statement{there, onNoes(both, "M")}, api.ErrNone, 1)
		wantFault(t, []api.Statement{there, onYes(both, "M")}, api.ErrNone, 1)
		wantFault(t, []api.Statement{there, onYes(onNoes(both, "RETURN"), "M")}, api.ErrNone, 1)
	}
}

func TestK2EntriesToNowhere(t *testing.T) {
	wantFault(t, program(t, " DEFINE F() L"), api.ErrNone, 0)
	wantFault(t, program(t, "M", "F", " DEFINE F(L)K L", "K"), api.ErrNone, 2)
	wantGood(t, program(t, " DEFINE F() L", "L"))
	wantGood(t, program(t, "L", " DEFINE F() L"))
	wantGood(t, program(t, "L DEFINE F() L"))
	wantGood(t, program(t, " DEFINE F() L", " DEFINE G() L", "L :(RETURN)"))
	for _, out := range []string{"END", "RETURN", "FRETURN"} {
		wantFault(t, program(t, "L", " DEFINE F() "+out), api.ErrNone, 1)
		wantFault(t, program(t, "L", " DEFINE F() "+out+" :("+out+")"), api.ErrNone, 1)
	}
}

// holders are statements with an expression in them, at all places where expressions can be, which are otherwise good where nothing is known.
func holders(x api.Expr) []api.Statement {
	deep, wide := x, x // deep: as deep as can be with a kid below, and within an item
	for range api.MaxDepth - 3 {
		deep = neg(deep)
	}
	for _, kind := range []int{api.ExCat, api.ExAdd, api.ExSub, api.ExMul, api.ExDiv, api.ExRem} {
		wide = two(kind, number(1), two(kind, wide, number(2)))
	}
	out := []api.Statement{assign(item("X", x), number(1)), replace(item("X", x), number(1)), assign(item("X", deep), number(1)), assign(api.Expr{Kind: api.ExIndirect, Kids: []api.Expr{x}}, number(1))}
	for _, value := range []api.Expr{x, deep, wide, item("X", x), {Kind: api.ExIndirect, Kids: []api.Expr{x}}, call("SIZE", x), call("EQ", number(1), x), call("REPLACE", number(1), x, call("SIZE", number(1)))} {
		out = append(out, eval(value), match(value), assign(name("X"), value), replace(name("X"), value))
	}
	return out
}

// wantCalls: wherever a call stands, behind that program and ahead of it, this is wrong with it.
func wantCalls(t *testing.T, l []api.Statement, x api.Expr, err api.Errno) {
	t.Helper()
	for _, s := range holders(x) {
		behind, ahead := join(l, []api.Statement{s}), join([]api.Statement{s}, l)
		if err == api.OK {
			wantGood(t, behind)
			wantGood(t, ahead)
			continue
		}
		wantFault(t, behind, err, len(l))
		wantFault(t, ahead, err, 0)
	}
}

func TestK2Calls(t *testing.T) {
	for _, s := range []string{"SIZE", "INTEGER", "EQ", "UNBASE", "SUBSTR", "RPAD"} {
		for kids := range api.MaxArgs + 1 {
			want := api.OK
			if kids != takes()[s] {
				want = api.ErrMany
			}
			wantCalls(t, nil, calling(s, kids), want)
		}
	}
	for _, s := range []string{"F", "X", "L", "P", "A", "SIZES", "INPUT", "OUTPUT", "END", "RETURN", "DEFINE"} {
		for kids := range api.MaxArgs + 1 {
			wantCalls(t, nil, calling(s, kids), api.ErrName)
			wantCalls(t, program(t, "L X = 1", " P := [*F]", " DEFINE G(A)F L"), calling(s, kids), api.ErrName)
		}
	}
	for params := range api.MaxArgs + 1 {
		l := []api.Statement{labelled("L", empty()), define("N", letters(params), []string{"X", "Y", "Z"}, "L")}
		for kids := range api.MaxArgs + 1 {
			want := api.OK
			if kids > params {
				want = api.ErrMany
			}
			wantCalls(t, l, calling("N", kids), want)
		}
	}
}

// Of several functions each has its own Params.
func TestK2CallsOfSeveral(t *testing.T) {
	l := program(t, " DEFINE F(A) L", " DEFINE G(A,B) L", "L", " DEFINE H()A,B,C L")
	for s, params := range map[string]int{"F": 1, "G": 2, "H": 0} {
		for kids := range 4 {
			want := api.OK
			if kids > params {
				want = api.ErrMany
			}
			wantCalls(t, l, calling(s, kids), want)
		}
	}
}

// A function may be called by itself, by others, and by what is not come to.
func TestK2CallsWithin(t *testing.T) {
	wantGood(t, program(t, " X = F(1) :(END)", "L F = F(X - 1) & G(F()) :(RETURN)", " DEFINE G(X) L", " DEFINE F(X)Y L"))
	wantFault(t, program(t, " X = F(1) :(END)", "L F = F(X - 1) & G(F(1, 2)) :(RETURN)", " DEFINE G(X) L", " DEFINE F(X)Y L"), api.ErrMany, 1)
	wantFault(t, program(t, " :(END)", " X = 1", " Y = F()"), api.ErrName, 2)
	wantFault(t, program(t, " :(END)", " X = 1", " Y = SIZE()"), api.ErrMany, 2)
	wantFault(t, program(t, " :(END)", " X = 1 :S(L)"), api.ErrNone, 1)
}

// Only ExCall calls.
func TestK2NamesThatAreNotCalled(t *testing.T) {
	for _, s := range []string{"F", "SIZE", "EQ"} {
		for _, x := range []api.Expr{name(s), item(s, number(1)), item(s, name(s)), {Kind: api.ExIndirect, Kids: []api.Expr{name(s)}}, {Kind: api.ExText, Text: s, Name: s}, {Kind: api.ExNumber, Name: s}, {Kind: api.ExNeg, Name: s, Kids: []api.Expr{number(1)}}, {Kind: api.ExAdd, Name: s, Kids: []api.Expr{number(1), number(2)}}} {
			wantCalls(t, nil, x, api.OK)
		}
	}
	wantGood(t, []api.Statement{assign(name("SIZE"), number(1)), assign(name("F"), number(1)), replace(item("F", name("F")), name("F")), rule("SIZE")})
	// Patterns call others.
	wantGood(t, program(t, " X ? [*F]", " P := [*SIZE *P *NOBODY]", " X ? [*NOBODY . F] = 1"))
}

// What a kind does not have is not looked at, be it without an end.
func TestK2WhatAKindDoesNotHave(t *testing.T) {
	for _, x := range []api.Expr{call("NOBODY"), call("SIZE"), neg(call("NOBODY")), endless(api.ExCall, 3), endless(api.ExAdd, 2), {Kind: 99}} {
		for _, s := range eachKind() {
			if s.Kind != api.StAssign && s.Kind != api.StReplace {
				s.Target = x
			}
			if s.Kind == api.StEmpty || s.Kind == api.StRule || s.Kind == api.StDefine {
				s.Value = x
			}
			if s.Kind != api.StMatch && s.Kind != api.StReplace && s.Kind != api.StRule {
				s.Pat = endlessPat()
			}
			if s.Kind != api.StDefine {
				s.Entry, s.Params, s.Locals = "NOWHERE", []string{"A", "A", "OUTPUT"}, []string{"INPUT", ""}
			}
			if s.Kind != api.StRule && s.Kind != api.StDefine {
				s.Name = "SIZE"
			}
			wantReached(t, []api.Statement{labelled("L", empty()), s, empty()}, "111")
		}
	}
}

// Which of several faults of one statement is told.
func TestK2OrderWithinOne(t *testing.T) {
	none, nobody, many := "NOWHERE", call("NOBODY"), call("SIZE")
	there := labelled("L", empty())
	for _, c := range []struct {
		s    api.Statement
		want api.Errno
	}{
		{always(eval(nobody), none), api.ErrNone},
		{onYes(eval(many), none), api.ErrNone},
		{onNoes(assign(item("X", nobody), many), none), api.ErrNone},
		{onNoes(onYes(replace(item("X", nobody), many), "L"), none), api.ErrNone},
		{onNoes(onYes(match(many), "END"), "RETURN"), api.ErrMany},
		{onNoes(onYes(match(nobody), "L"), "L"), api.ErrName},
		// Target, then Value.
		{assign(item("X", nobody), many), api.ErrName},
		{assign(item("X", many), nobody), api.ErrMany},
		{replace(item("X", nobody), many), api.ErrName},
		{replace(item("X", many), nobody), api.ErrMany},
		{assign(item("X", call("SIZE", nobody)), many), api.ErrName},
		{assign(name("X"), many), api.ErrMany},
		// Each node ahead of its kids.
		{eval(call("SIZE", nobody, nobody)), api.ErrMany},
		{eval(call("NOBODY", many)), api.ErrName},
		{eval(call("SIZE", nobody)), api.ErrName},
		{eval(call("SIZE", many)), api.ErrMany},
		{eval(neg(call("EQ", call("NOBODY", many), many))), api.ErrName},
		{eval(neg(call("EQ", call("SIZE", nobody, nobody), nobody))), api.ErrMany},
		// The first kid first, and all below it ahead of the next one.
		{eval(call("EQ", nobody, many)), api.ErrName},
		{eval(call("EQ", many, nobody)), api.ErrMany},
		{eval(call("EQ", number(1), many)), api.ErrMany},
		{eval(two(api.ExAdd, neg(neg(nobody)), many)), api.ErrName},
		{eval(two(api.ExAdd, neg(neg(many)), nobody)), api.ErrMany},
		{eval(call("REPLACE", number(1), item("X", call("SIZE", neg(many))), nobody)), api.ErrMany},
		{eval(call("REPLACE", number(1), item("X", call("SIZE", neg(nobody))), many)), api.ErrName},
		// Names are asked ahead of where they lead.
		{always(labelled("L", eval(nobody)), none), api.ErrName},
		{labelled("END", eval(many)), api.ErrName},
		{always(define("SIZE", nil, nil, none), none), api.ErrName},
		{define("F", []string{"OUTPUT"}, nil, none), api.ErrName},
		{define("F", []string{"F"}, nil, none), api.ErrName},
		{always(define("F", nil, nil, none), "L"), api.ErrNone},
		{always(define("F", nil, nil, "L"), none), api.ErrNone},
		// And what is wrong with it alone ahead of its names.
		{labelled("END", always(define("SIZE", []string{"", "INPUT"}, letters(9), none), none)), api.ErrName},
		{labelled("L", always(define("SIZE", []string{"INPUT"}, letters(9), none), none)), api.ErrMany},
		{labelled("END", assign(many, nobody)), api.ErrFit},
		{labelled("END", onYes(always(empty(), none), none)), api.ErrFit},
		{labelled("END", eval(call("NOBODY", number(-1)))), api.ErrRange},
		{labelled("END", api.Statement{Value: nobody}), api.ErrKind},
	} {
		wantFault(t, []api.Statement{there, c.s}, c.want, 1)
		wantFault(t, []api.Statement{there, empty(), c.s, always(empty(), none), eval(nobody), eval(many)}, c.want, 2)
	}
}

// Which of several is told: the earlier round ahead of the earlier number, then the earlier number.
func TestK2OrderOfRounds(t *testing.T) {
	rounds := [][]api.Statement{
		{{}, assign(number(1), call("SIZE")), labelled("a", empty())},
		{labelled("END", empty()), labelled("L", empty()), define("SIZE", nil, nil, "L"), define("F", nil, nil, "L"), define("G", []string{"G"}, nil, "L"), define("G", nil, []string{"INPUT"}, "L")},
		{always(empty(), "M"), onYes(eval(number(1)), "M"), define("H", nil, nil, "M"), eval(call("NOBODY")), eval(call("SIZE")), match(call("F", number(1)))},
	}
	begin := []api.Statement{labelled("L", empty()), define("F", nil, nil, "L")}
	for i, early := range rounds {
		for j, late := range rounds {
			for _, a := range early {
				for _, b := range late {
					if b.Name == "H" { // else it would be defined twice
						b.Name = "K"
					}
					l := join(begin, []api.Statement{a, empty(), b})
					at := 2
					if j < i {
						at = 4
					}
					// Alone it is told so, too.
					one := slices.Clone(l)
					one[6-at] = empty()
					fault := check.Check(one)
					if fault.At != at || fault.Err == api.OK {
						t.Fatalf("Check of %s: fault %v; want some at %d", tell(one), fault, at)
					}
					wantFault(t, l, fault.Err, at)
				}
			}
		}
	}
}

func TestK2Programs(t *testing.T) {
	for _, c := range []struct {
		lines []string
		err   api.Errno
		at    int
	}{
		{[]string{"L :(M)"}, api.ErrNone, 0},
		{[]string{"L :(L)"}, api.OK, 0},
		{[]string{" DEFINE FACT(N)M FACT", " OUTPUT = FACT(10) :(END)", "FACT FACT = 1", " LT(N, 2) :S(RETURN)", " FACT = N * FACT(N - 1) :(RETURN)"}, api.OK, 0},
		{[]string{" DEFINE FACT(N)M FACT", " OUTPUT = FACT(10, 1) :(END)", "FACT FACT = 1", " LT(N, 2) :S(RETURN)", " FACT = N * FACT(N - 1) :(RETURN)"}, api.ErrMany, 1},
		{[]string{" DEFINE FACT(N)M FACT", " OUTPUT = FACT(10) :(END)", "FACT FACT = 1", " LT(N) :S(RETURN)", " FACT = N * FACT(N - 1) :(RETURN)"}, api.ErrMany, 3},
		{[]string{" DEFINE FACT(N)M FACT", " OUTPUT = FACT(10) :(END)", "FACT FACT = 1", " LT(N, 2) :S(RETURN)", " FACT = N * FAKT(N - 1) :(RETURN)"}, api.ErrName, 4},
		{[]string{" DEFINE FACT(N)M FAKT", " OUTPUT = FACT(10) :(END)", "FACT FACT = 1", " LT(N, 2) :S(RETURN)", " FACT = N * FACT(N - 1) :(RETURN)"}, api.ErrNone, 0},
		{[]string{" DEFINE FACT(N)M FACT", " OUTPUT = FACT(10) :(END)", "FACT FACT = 1", " LT(N, 2) :S(RETURN)", " FACT = N * FACT(N - 1) :(RETURN)", "END"}, api.ErrName, 5},
		{[]string{"LOOP LINE = INPUT :F(END)", " LINE ? [SPAN(' ')] = '' :S(LOOP)F(LOOP)"}, api.OK, 0},
		{[]string{"LOOP LINE = INPUT :F(END)", " LINE ? [SPAN(' ')] = '' :S(LOOP)F(LOOPS)"}, api.ErrNone, 1},
	} {
		if c.err == api.OK {
			wantGood(t, program(t, c.lines...))
		} else {
			wantFault(t, program(t, c.lines...), c.err, c.at)
		}
	}
}
