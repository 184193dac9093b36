package syntax_test

import (
	"strings"
	"testing"

	"scanfail/api"
	"scanfail/lex"
)

// deeds are what lines may do, and the statements that they make, but for labels and ways on.
var deeds = []struct {
	text string
	s    api.Statement
}{
	{"", empty()},
	{"X", eval(name("X"))},
	{"12", eval(number(12))},
	{"'a'", eval(text("a"))},
	{"F()", eval(call("F"))},
	{"A & B + 1", eval(two(api.ExCat, name("A"), two(api.ExAdd, name("B"), number(1))))},
	{"S", eval(name("S"))},
	{"F", eval(name("F"))},
	{"DEFINE", eval(name("DEFINE"))},
	{"X = 1", assign(name("X"), number(1))},
	{"T<'a'> = F(1, X)", assign(item("T", text("a")), call("F", number(1), name("X")))},
	{"$X = 'a' & 2", assign(indirect(name("X")), two(api.ExCat, text("a"), number(2)))},
	{"X ? [ARB]", match(name("X"), arb())},
	{"F(X) & 1 ? ['a' | *P]", match(two(api.ExCat, call("F", name("X")), number(1)), api.Pat{Kind: api.PatAlt, Kids: []api.Pat{lit("a"), {Kind: api.PatCall, Name: "P"}}})},
	{"X ? [ARB] = 'y'", replace(name("X"), arb(), text("y"))},
	{"T<1> ? ['a'] = -2", replace(item("T", number(1)), lit("a"), neg(number(2)))},
	{"$'X' ? ['a'] = ''", replace(indirect(text("X")), lit("a"), text(""))},
	{"P := ['a']", rule("P", lit("a"))},
	{"P := [LEN(2) . X]", rule("P", api.Pat{Kind: api.PatCond, Name: "X", Kids: []api.Pat{{Kind: api.PatLen, N: 2}}})},
	{"DEFINE F() L", define("F", nil, nil, "L")},
	{"DEFINE F(A) L", define("F", letters(1), nil, "L")},
	{"DEFINE F()A L", define("F", nil, letters(1), "L")},
	{"DEFINE F(A,B)C,D L", define("F", letters(2), []string{"C", "D"}, "L")},
}

// ways are where a line may go on, and what that makes.
var ways = []struct{ text, always, yes, noes string }{
	{"", "", "", ""},
	{":(M)", "M", "", ""},
	{":S(M)", "", "M", ""},
	{":F(M)", "", "", "M"},
	{":S(M)F(N)", "", "M", "N"},
	{":S(M)F(M)", "", "M", "M"},
	{":S(S)F(F)", "", "S", "F"},
	{":(S)", "S", "", ""},
	{":(END)", "END", "", ""},
	{":S(" + longest + ")F(" + longest + ")", "", longest, longest},
}

// pieces are the tokens of a line, as they are written there.
func pieces(t *testing.T, line string) []string {
	t.Helper()
	tokens, fault := lex.Line(line)
	if fault.Err != api.OK {
		t.Fatalf("%q has no tokens: %v", line, fault)
	}
	var out []string
	for i, token := range tokens {
		end := len(line)
		if i+1 < len(tokens) {
			end = tokens[i+1].At
		}
		out = append(out, strings.TrimRight(line[token.At:end], " "))
	}
	return out
}

// isWordy tells whether a byte would grow into a word or a number beside it.
func isWordy(b byte) bool { return b >= '0' && b <= '9' || b >= 'A' && b <= 'Z' }

// spread is a line with n blanks between its tokens, or with as few as there must be.
func spread(t *testing.T, line string, n int) string {
	out := ""
	for i, piece := range pieces(t, line) {
		switch {
		case i > 0 && n > 0:
			out += many(" ", n)
		case i > 0 && isWordy(out[len(out)-1]) && isWordy(piece[0]):
			out += " "
		}
		out += piece
	}
	return out
}

// Each kind of statement with and without a label, with and without each of the ways on, with many blanks and few.
func TestJ1EachKind(t *testing.T) {
	for _, label := range []string{"", "L", "DEFINE", "S", longest} {
		for _, deed := range deeds {
			for _, way := range ways {
				want := deed.s
				want.Label, want.Always, want.Yes, want.Noes = label, way.always, way.yes, way.noes
				wantLine(t, label+" "+deed.text+" "+way.text, want)
				line := deed.text + " " + way.text
				wantLine(t, label+" "+spread(t, line, 0), want)
				wantLine(t, label+"  "+spread(t, line, 1), want)
				wantLine(t, label+" "+spread(t, line, 7)+"   ", want)
			}
		}
	}
}

func TestJ1LabelsAlone(t *testing.T) {
	for _, label := range []string{"L", "X1", "DEFINE", "S", "F", "END", "A0", longest} {
		want := api.Statement{Label: label, Kind: api.StEmpty}
		wantLine(t, label, want)
		wantLine(t, label+" ", want)
		wantLine(t, label+many(" ", api.MaxLine-len(label)), want)
		wantLine(t, " "+label, eval(name(label))) // with a blank ahead it is none
	}
	wantLine(t, "L:(M)", api.Statement{Label: "L", Kind: api.StEmpty, Always: "M"})
	wantLine(t, "L'a'", api.Statement{Label: "L", Kind: api.StEval, Value: text("a")})
	wantLine(t, "L(1)", api.Statement{Label: "L", Kind: api.StEval, Value: number(1)}) // a label is no function
	wantForm(t, "L<1>", 1)
	wantForm(t, "L = 1", 2)
	wantForm(t, "L := ['a']", 2)
	wantForm(t, "L ? ['a']", 2)
	wantForm(t, "L,M", 1)
}

func TestJ1LabelsAreNames(t *testing.T) {
	for _, line := range []string{"1", "'a'", "[ARB]", "=", "?", "&", "+", "-", "/", "%", "(", ")", "<", ">", ",", "$", "$X = 1", "(L)", "1 X = 1", "'L' X", "-L"} {
		wantForm(t, line, 0)
		wantForm(t, line+" :(M)", 0)
	}
	wantForm(t, ":=", 0) // it begins with `:`: no label is asked for, and nothing begins so
	wantForm(t, ":= ['a']", 0)
	wantFault(t, longest+"X", api.ErrName, 0)
	wantFault(t, longest+"X X = 1", api.ErrName, 0)
	wantFault(t, many("X", api.MaxLine), api.ErrName, 0)
}

func TestJ1WaysOnAlone(t *testing.T) {
	for _, way := range ways[1:] {
		want := api.Statement{Kind: api.StEmpty, Always: way.always, Yes: way.yes, Noes: way.noes}
		wantLine(t, way.text, want) // with which a line may begin
		wantLine(t, " "+way.text, want)
		wantLine(t, "   "+spread(t, way.text, 3)+" ", want)
		want.Label = "L"
		wantLine(t, "L"+way.text, want)
		wantLine(t, "L   "+way.text, want)
	}
}

func TestJ1Nothing(t *testing.T) {
	for _, n := range []int{0, 1, 2, 50, api.MaxLine} {
		wantLine(t, many(" ", n), empty())
	}
}

func TestJ1WaysOnThatAreNone(t *testing.T) {
	for _, c := range []struct {
		way string
		at  int
	}{
		{":", 1},
		{": ", 2},
		{": :", 2},
		{":M", 1},
		{":X(M)", 1},
		{":SF(M)", 1},
		{":S1(M)", 1},
		{":1", 1},
		{":'S'(M)", 1},
		{":[S]", 1},
		{":)", 1},
		{":<M>", 1},
		{":,", 1},
		{":(", 2},
		{":()", 2},
		{":(M", 3},
		{":(1)", 2},
		{":('M')", 2},
		{":(M,N)", 3},
		{":(M N)", 4},
		{":((M))", 2},
		{":($M)", 2},
		{":(M)(N)", 4},
		{":(M)S(N)", 4},
		{":(M)F(N)", 4},
		{":(M):(N)", 4},
		{":(M):", 4},
		{":(M)X", 4},
		{":(M) = 1", 5},
		{":S", 2},
		{":S(", 3},
		{":S(M", 4},
		{":S()", 3},
		{":S(M)S(N)", 5},
		{":S(M)(N)", 5},
		{":S(M)X(N)", 5},
		{":S(M)F", 6},
		{":S(M)F(", 7},
		{":S(M)F()", 7},
		{":S(M)F(N", 8},
		{":S(M)F(N)F(O)", 9},
		{":S(M)F(N)S(O)", 9},
		{":S(M),F(N)", 5},
		{":S(M):F(N)", 5},
		{":S(M)'F'(N)", 5},
		{":F", 2},
		{":F(M)S(N)", 5},
		{":F(M)F(N)", 5},
		{":F(M)(N)", 5},
		{":F(M)1", 5},
		{":S M", 3},
		{":F M", 3},
		{":S:(M)", 2},
	} {
		wantForm(t, c.way, c.at)
		wantForm(t, " "+c.way, c.at+1)
		wantForm(t, "L X = 1 "+c.way, c.at+8)
		wantForm(t, " X ? ['a'] "+c.way, c.at+11)
		wantForm(t, " DEFINE F()L "+c.way, c.at+13)
		wantForm(t, " P := ['a'] "+c.way, c.at+12)
	}
}

func list(l []string) string { return strings.Join(l, ",") }

// DEFINE with each number of names in brackets and as locals.
func TestJ1DefineNumbers(t *testing.T) {
	for a := range api.MaxArgs + 2 {
		for b := range api.MaxArgs + 2 {
			params, locals := letters(a), letters(b)
			ahead := " DEFINE F(" + list(params)
			line := ahead + ")" + list(locals) + " L"
			switch {
			case a > api.MaxArgs:
				wantFault(t, line, api.ErrMany, len(ahead)-1)
			case b > api.MaxArgs:
				wantFault(t, line, api.ErrMany, len(line)-3)
			default:
				wantLine(t, line, define("F", params, locals, "L"))
			}
		}
	}
}

// What tells locals and entry apart: the second token behind the brackets.
func TestJ1DefineLocalsOrEntry(t *testing.T) {
	none := []string(nil)
	for _, c := range []struct {
		behind string
		locals []string
		entry  string
		more   api.Statement
	}{
		{"L", none, "L", api.Statement{}},
		{" L", none, "L", api.Statement{}},
		{" L ", none, "L", api.Statement{}},
		{"A L", letters(1), "L", api.Statement{}},
		{"A L ", letters(1), "L", api.Statement{}},
		{" A  L", letters(1), "L", api.Statement{}},
		{"A,B L", letters(2), "L", api.Statement{}},
		{" A , B   L", letters(2), "L", api.Statement{}},
		{"A A", letters(1), "A", api.Statement{}},
		{"DEFINE DEFINE", []string{"DEFINE"}, "DEFINE", api.Statement{}},
		{"L:(M)", none, "L", api.Statement{Always: "M"}},
		{"L :S(M)", none, "L", api.Statement{Yes: "M"}},
		{"L :F(M)", none, "L", api.Statement{Noes: "M"}},
		{"A L:(M)", letters(1), "L", api.Statement{Always: "M"}},
		{"A,B L:S(M)F(N)", letters(2), "L", api.Statement{Yes: "M", Noes: "N"}},
		{"S F :S(S)F(F)", []string{"S"}, "F", api.Statement{Yes: "S", Noes: "F"}},
		{longest + " " + longest, []string{longest}, longest, api.Statement{}},
	} {
		for _, params := range [][]string{nil, letters(1), letters(api.MaxArgs)} {
			want := define("FUN", params, c.locals, c.entry)
			want.Always, want.Yes, want.Noes = c.more.Always, c.more.Yes, c.more.Noes
			wantLine(t, " DEFINE FUN("+list(params)+")"+c.behind, want)
			want.Label = "L"
			wantLine(t, "L DEFINE FUN("+list(params)+")"+c.behind, want)
		}
	}
}

func TestJ1DefineWrong(t *testing.T) {
	for _, c := range []struct {
		behind string // DEFINE and a blank
		at     int    // in it
	}{
		{"F", 1},
		{"F ", 2},
		{"F :(M)", 2},
		{"F L", 2},
		{"F A,B", 2},
		{"F = 1", 2},
		{"F := ['a']", 2},
		{"F<A> L", 1},
		{"F)", 1},
		{"F(", 2},
		{"F(,)L", 2},
		{"F(,A)L", 2},
		{"F(1)L", 2},
		{"F('A')L", 2},
		{"F($A)L", 2},
		{"F((A))L", 2},
		{"F(A", 3},
		{"F(A,", 4},
		{"F(A,)L", 4},
		{"F(A,,B)L", 4},
		{"F(A B)L", 4},
		{"F(A:B)L", 3},
		{"F(A,1)L", 4},
		{"F(A]", -1},
		{"F()", 3},
		{"F() ", 4},
		{"F():(M)", 3},
		{"F() :S(M)", 4},
		{"F()1", 3},
		{"F()'L'", 3},
		{"F()(L)", 3},
		{"F(),L", 3},
		{"F(),A L", 3},
		{"F()A,", 5},
		{"F()A,L", 6},
		{"F()A, L ", 8},
		{"F()A,,L", 5},
		{"F()A,:(M)", 5},
		{"F()A,B", 6},
		{"F()A,B 1", 7},
		{"F()A,B,C", 8},
		{"F()A,B:(M)", 6},
		{"F()A,1 L", 5},
		{"F()A 1", 5},
		{"F()A 'L'", 5},
		{"F()A (L)", 5},
		{"F()A = 1", 5},
		{"F()A & B", 5},
		{"F()A L M", 7},
		{"F()A L,M", 6},
		{"F()A L(M)", 6},
		{"F()A L = 1", 7},
		{"F()L ? ['a']", 5},
		{"F()L ['a']", 5},
		{"F()A L ['a']", 7},
	} {
		if c.at < 0 { // `]` begins no token: chapter 9 tells it
			c.at = strings.Index(c.behind, "]")
		}
		wantForm(t, " DEFINE "+c.behind, 8+c.at)
		wantForm(t, "LABEL DEFINE "+c.behind, 13+c.at)
	}
}

// DEFINE and names are ordinary words where the second token is none that the chapter asks for.
func TestJ1DefineAsAWord(t *testing.T) {
	def := name("DEFINE")
	for _, c := range []struct {
		line string
		want api.Statement
	}{
		{" DEFINE", eval(def)},
		{" DEFINE & 1", eval(two(api.ExCat, def, number(1)))},
		{" DEFINE - DEFINE", eval(two(api.ExSub, def, def))},
		{" DEFINE = 1", assign(def, number(1))},
		{" DEFINE ? ['a']", match(def, lit("a"))},
		{" DEFINE ? ['a'] = DEFINE", replace(def, lit("a"), def)},
		{" DEFINE(F)", eval(call("DEFINE", name("F")))},
		{" DEFINE()", eval(call("DEFINE"))},
		{" DEFINE<F> = 1", assign(item("DEFINE", name("F")), number(1))},
		{" DEFINE := ['a']", rule("DEFINE", lit("a"))},
		{" DEFINE := [*DEFINE]", rule("DEFINE", api.Pat{Kind: api.PatCall, Name: "DEFINE"})},
		{" X = DEFINE", assign(name("X"), def)},
		{" $DEFINE = DEFINE", assign(indirect(def), def)},
		{" DEFINE DEFINE(DEFINE)DEFINE DEFINE", define("DEFINE", []string{"DEFINE"}, []string{"DEFINE"}, "DEFINE")},
		{" DEFINE1 = 1", assign(name("DEFINE1"), number(1))},
	} {
		wantLine(t, c.line, c.want)
		c.want.Label = "DEFINE"
		wantLine(t, "DEFINE"+c.line, c.want)
	}
	wantForm(t, " DEFINE 1", 8)
	wantForm(t, " DEFINE 'F'() L", 8)
	wantForm(t, " DEFINE ['a']", 8)
	wantForm(t, " DEFINE1 F() L", 9)
	wantForm(t, " 'DEFINE' F() L", 10)
	wantForm(t, "DEFINE F() L", 11) // a label, and a call
	wantFault(t, " DEFINE(F) = 1", api.ErrFit, 1)
}

func TestJ1RuleOrNot(t *testing.T) {
	wantLine(t, " P:=['a']", rule("P", lit("a")))
	wantLine(t, "P P:=['a']:(P)", api.Statement{Label: "P", Kind: api.StRule, Name: "P", Pat: lit("a"), Always: "P"})
	for _, c := range []struct {
		line string
		at   int
	}{
		{" P :=", 5},
		{" P := ", 6},
		{" P := 'a'", 6},
		{" P := X", 6},
		{" P := :(M)", 6},
		{" P := = ['a']", 6},
		{" P : = ['a']", 5}, // two signs
		{" P = ['a']", 5},
		{" P ['a']", 3},
		{" P := ['a'] ['b']", 12},
		{" P := ['a'] 'b'", 12},
		{" P := ['a'] = 1", 12},
		{" P := ['a'] ? ['b']", 12},
		{" P & Q := ['a']", 7},
		{" P() := ['a']", 5},
		{" P<1> := ['a']", 6},
		{" $P := ['a']", 4},
		{" (P) := ['a']", 5},
		{" 1 := ['a']", 3},
		{" 'P' := ['a']", 5},
		{" := ['a']", 1},
		{" X = P := ['a']", 7},
	} {
		wantForm(t, c.line, c.at)
	}
	wantFault(t, " "+longest+"X := ['a']", api.ErrName, 1)
	wantLine(t, " "+longest+" := ['a']", rule(longest, lit("a")))
}

func TestJ1ExpressionsAndWhatIsBehind(t *testing.T) {
	for _, c := range []struct {
		line string
		at   int
	}{
		{" X Y", 3},
		{" X 1", 3},
		{" X 'a'", 3},
		{" 'a' 'b'", 5},
		{" 1 X", 3},
		{" X ?", 4},
		{" X ? ", 5},
		{" X ? 'a'", 5},
		{" X ? Y", 5},
		{" X ? ? ['a']", 5},
		{" X ? = 1", 5},
		{" X ? :(M)", 5},
		{" X ? ['a'] ['b']", 11},
		{" X ? ['a'] ? ['b']", 11},
		{" X ? ['a'] & 1", 11},
		{" X ? ['a'] Y", 11},
		{" X ? ['a'] =", 12},
		{" X ? ['a'] = :(M)", 13},
		{" X ? ['a'] = ['b']", 13},
		{" X ? ['a'] = 1 = 2", 15},
		{" X ? ['a'] = Y ? ['b']", 15},
		{" ? ['a']", 1},
		{" ['a']", 1},
		{" X =", 4},
		{" X = ", 5},
		{" X = :(M)", 5},
		{" X = = 1", 5},
		{" X = Y = 1", 7},
		{" X = Y ? ['a']", 7},
		{" X = ? ['a']", 5},
		{" X = ['a']", 5},
		{" X := 1", 6},
		{" = 1", 1},
		{" X )", 3},
		{" X >", 3},
		{" X ,", 3},
		{" X = 1 )", 7},
		{" X = 1, 2", 6},
		{" X = 1 > 2", 7},
		{" X = 1 < 2", 7},
	} {
		wantForm(t, c.line, c.at)
		wantForm(t, "L"+c.line, c.at+1)
	}
}

// A text, or a pattern, in which a sign or a word stands is none.
func TestJ1SignsInTexts(t *testing.T) {
	for _, sign := range []string{"=", "?", "&", "+", "-", "*", "/", "%", "(", ")", "<", ">", ",", ":", ":=", "$"} {
		for _, ahead := range []string{" X ", " X = 1 ", " X = (1 ", " X = T<1 ", " X = F(1 ", " X = F() ", " X ? ['a'] ", " P := ['a'] ", " DEFINE F ", " DEFINE F(A ", " DEFINE F()A L ", " :S(M) ", " :(M "} {
			for _, behind := range []string{"", " 1", " X", " ['a']"} {
				wantForm(t, ahead+"'"+sign+"'"+behind, len(ahead))
				wantForm(t, ahead+"["+sign+"]"+behind, len(ahead))
			}
		}
		wantLine(t, " '"+sign+"'", eval(text(sign)))
		wantLine(t, "L'"+sign+"':(M)", api.Statement{Label: "L", Kind: api.StEval, Value: text(sign), Always: "M"})
	}
	for _, ahead := range []string{" :", " :S(M)", " DEFINE F(", " DEFINE F()"} {
		for _, word := range []string{"S", "F", "A", "DEFINE"} {
			wantForm(t, ahead+"'"+word+"'(M)", len(ahead))
			wantForm(t, ahead+"["+word+"](M)", len(ahead))
		}
	}
	wantForm(t, " 'DEFINE' F() L", 10)
	wantForm(t, " 'P' := ['a']", 5)
	wantForm(t, "'L' X = 1", 0)
}
