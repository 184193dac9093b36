package syntax_test

import (
	"strings"
	"testing"

	"scanfail/api"
	"scanfail/syntax"
)

// asModel holds what Line says of a line against what the model says.
func asModel(t *testing.T, line string) {
	t.Helper()
	got, some, fault := syntax.Line(line)
	want, there, wrong := modelLine(line)
	if some != there || fault != wrong || !same(got, want) {
		t.Errorf("Line %q (%d bytes): %s, %v, fault %v; the model has %s, %v, fault %v", brief(line), len(line), tell(got), some, fault, tell(want), there, wrong)
	}
	if some {
		wantWrong(t, line, got, api.OK)
	}
}

// eachLine holds all lines of up to n of these tokens, behind something, against the model.
func eachLine(t *testing.T, ahead string, tokens []string, n int) {
	asModel(t, ahead)
	if n == 0 || t.Failed() {
		return
	}
	for _, token := range tokens {
		eachLine(t, ahead+token+" ", tokens, n-1)
	}
}

var allTokens = []string{"X", "DEFINE", "S", "F", "1", "007", "'a'", "[ARB]", "[]", "=", "?", "&", "+", "-", "*", "(", ")", "<", ">", ",", ":", ":=", "$"}

func TestJ3AllShortLines(t *testing.T) {
	eachLine(t, " ", allTokens, 4)
	eachLine(t, "", allTokens, 3)
	eachLine(t, "L ", allTokens, 3)
	eachLine(t, " X = ", allTokens, 3)
	eachLine(t, " X ? [ARB] ", allTokens, 3)
	eachLine(t, " F(1, ", allTokens, 3)
	eachLine(t, " T< ", allTokens, 3)
	eachLine(t, " X = 1 : ", allTokens, 3)
}

func TestJ1AllShortDefines(t *testing.T) {
	tokens := []string{"A", "(", ")", ",", ":", "1"}
	eachLine(t, " DEFINE ", tokens, 6)
	eachLine(t, " DEFINE F( ", tokens, 5)
	eachLine(t, " DEFINE F() ", tokens, 5)
	eachLine(t, " DEFINE F(A) B ", tokens, 5)
	eachLine(t, " DEFINE F()A,B,C,D,E,F,G ", tokens, 5)
	eachLine(t, " DEFINE F(A,B,C,D,E,F,G ", tokens, 5)
}

func TestJ1AllShortWaysOn(t *testing.T) {
	eachLine(t, " :", []string{"S", "F", "(", ")", "L", ":"}, 6)
	eachLine(t, ":S(L", []string{"S", "F", "(", ")", "L", ","}, 6)
}

func TestJ2AllShortExpressions(t *testing.T) {
	eachLine(t, " X = ", []string{"A", "-", "$", "(", ")", "&", "+", "*"}, 6)
	eachLine(t, " ", []string{"A", "<", ">", "(", ")", ",", "="}, 6)
}

// words are tokens, and whole parts of lines, of which many lines come that are right, or nearly.
var words = []string{
	"X", "X", "A1", longest, longest + "X", "DEFINE", "S", "F", "L", "1", "0", "12", "007", "9223372036854775807", "9223372036854775808", "'a'", "''", "'it''s'", "'='", "'+'", "'('", "[=]", "[+]",
	"[ARB]", "['a' | LEN(2) . X]", "[]", "[XYZ]", "[LEN(03)]", "=", "=", "?", "&", "+", "-", "-", "*", "/", "%", "(", "(", ")", ")", "<", ">", ">", ",", ",", ":", ":=", "$",
	"F(", "T<", "X = ", " ? [ARB]", ":(M)", ":S(M)", "F(N)", "DEFINE F(A,B)C L", "F(1,2,3,4,5,6,7,8", "1,2,3,4,5,6,7,8,", "((((((", "))))))", "--", "$$", "P := ['a']",
}

// Lines of tokens as they come.
func TestJ3MixedTokens(t *testing.T) {
	d := dice(31)
	for range 60000 {
		line := []string{"", " ", " ", "L ", " X = ", " X ? ['a'] = "}[d.below(6)]
		for range d.below(12) {
			line += words[d.below(len(words))] + many(" ", d.below(2))
		}
		asModel(t, line)
		if t.Failed() {
			return
		}
	}
}

// Lines that are right, of which a token is taken away, put in, or replaced.
func TestJ3BrokenLines(t *testing.T) {
	d := dice(37)
	for range 6000 {
		line, err := syntax.Print(someStatement(&d))
		if err != api.OK {
			continue
		}
		asModel(t, line)
		lead := line[:len(line)-len(strings.TrimLeft(line, " "))]
		parts := pieces(t, line)
		for range 6 {
			at, word := d.below(len(parts)+1), words[d.below(len(words))]
			out := append([]string(nil), parts[:at]...)
			switch rest := parts[at:]; d.below(3) {
			case 0:
				out = append(append(out, word), rest...)
			case 1:
				out = append(append(out, word), rest[min(1, len(rest)):]...)
			case 2:
				out = append(out, rest[min(1, len(rest)):]...)
			}
			asModel(t, lead+strings.Join(out, " "))
		}
		if t.Failed() {
			return
		}
	}
}

// Bytes that are changed, taken away or put in.
func TestJ3BrokenBytes(t *testing.T) {
	const some = "AX19'[]=?&+-*/%()<>,:$ ;a\x00\xff\n"
	d := dice(41)
	for range 4000 {
		line, err := syntax.Print(someStatement(&d))
		if err != api.OK || line == "" {
			continue
		}
		for range 8 {
			at := d.below(len(line))
			with := string(some[d.below(len(some))])
			asModel(t, line[:at]+with+line[at+1:])
			asModel(t, line[:at]+with+line[at:])
			asModel(t, line[:at]+line[at+1:])
			asModel(t, line[:at])
		}
		if t.Failed() {
			return
		}
	}
}

// Long lines, in which much is open, and more.
func TestJ3LongLines(t *testing.T) {
	d := dice(43)
	opens := []string{"(", "(", "(", "T<", "F(", "F(1,", "-", "$", "1&(", "A*("}
	for range 300 {
		line, shut := " X = ", ""
		for range 150 + d.below(300) {
			open := opens[d.below(1+d.below(len(opens)))]
			if strings.HasSuffix(line, "$") && open == "-" {
				open = "("
			}
			line += open
			switch open[len(open)-1] {
			case '(', ',':
				shut = ")" + shut
			case '<':
				shut = ">" + shut
			}
		}
		line += "1"
		asModel(t, line+shut)
		asModel(t, line+shut[d.below(len(shut)):])
		asModel(t, line+shut+")")
		asModel(t, line)
		if t.Failed() {
			return
		}
	}
}

// Programs of lines that are right, and some that are not: the first one is told, at its number.
func TestJ3MixedPrograms(t *testing.T) {
	d := dice(47)
	lines := []string{"", "*x", " X = 1", "L :(L)", " DEFINE F(A)B L", " P := ['a']", " X ? [*P] = Y :F(END)", " ", "*", "* ;"}
	wrong := []string{";", " X =", " 1 = 2", " X = 9223372036854775808", " F(1,2,3,4,5,6,7,8,9)", longest + "X", " X ? [ANY('')]"}
	for range 3000 {
		program, fault := "", api.Fault{}
		var want []api.Statement
		n := d.below(30)
		for i := range n {
			line := lines[d.below(len(lines))]
			if d.below(25) == 0 {
				line = wrong[d.below(len(wrong))]
			}
			s, some, f := modelLine(line)
			if fault.Err == api.OK && f.Err != api.OK {
				fault = api.Fault{Err: f.Err, At: i}
			}
			if some {
				want = append(want, s)
			}
			program += line
			if i < n-1 || line == "" || d.below(2) == 0 {
				program += "\n"
			}
		}
		if fault.Err != api.OK {
			wantReadFault(t, program, fault.Err, fault.At)
		} else {
			wantRead(t, program, want...)
		}
	}
}
