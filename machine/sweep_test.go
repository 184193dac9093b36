package machine_test

import (
	"fmt"
	"slices"
	"strings"
	"testing"

	"scanfail/api"
	"scanfail/check"
)

// mixed makes programs, line by line.
type mixed struct {
	*dice
	labels       []string
	texts, names []string // that expressions have
}

func (d mixed) variable() string { return pick(d.dice, d.names...) }

func (d mixed) expr(depth int) string {
	kid := func() string { return d.expr(depth - 1) }
	if depth <= 0 {
		return pick(d.dice, d.variable(), d.variable(), quoted(pick(d.dice, d.texts...)), fmt.Sprint(d.below(12)), "N")
	}
	switch d.below(12) {
	case 0:
		return pick(d.dice, "T", "S", "X", "INPUT") + "<" + kid() + ">"
	case 1:
		return "$(" + kid() + ")"
	case 2:
		return "-(" + kid() + ")"
	case 3, 4:
		return "(" + kid() + " " + pick(d.dice, "&", "&", "+", "-", "*", "/", "%") + " " + kid() + ")"
	case 5:
		return pick(d.dice, "SIZE", "TRIM", "REVERSE", "ROOT", "INTEGER") + "(" + kid() + ")"
	case 6:
		return pick(d.dice, "DUPL", "ROTATE", "COUNT", "EQ", "NE", "LT", "LE", "GT", "GE", "IDENT", "DIFFER", "LGT", "REMDR", "POWER", "GCD", "BASE", "UNBASE") + "(" + kid() + ", " + kid() + ")"
	case 7:
		return pick(d.dice, "REPLACE", "SUBSTR", "LPAD", "RPAD") + "(" + kid() + ", " + kid() + ", " + pick(d.dice, kid(), "' '") + ")"
	case 8:
		return "F(" + pick(d.dice, "", kid(), kid()) + ")"
	case 9:
		return "G(" + pick(d.dice, "", kid(), kid()+", "+kid()) + ")"
	case 10:
		return "H()"
	}
	return d.expr(0)
}

func (d mixed) target() string {
	return pick(d.dice, d.variable(), d.variable(), d.variable(), pick(d.dice, "T", "S", "X", "OUTPUT")+"<"+d.expr(1)+">", "$("+d.expr(1)+")", "$'Y'")
}

func (d mixed) pat(depth int) string {
	kid := func() string { return d.pat(depth - 1) }
	if depth <= 0 {
		return pick(d.dice, "'a'", "''", "'b'", "LEN(1)", "LEN(2)", "ANY('ab')", "SPAN('ab1')", "BREAK(' b')", "REM", "ARB", "BAL", "POS(0)", "RPOS(0)", "@X", "@OUTPUT", "*X", "*P", "*R", "*Q", "*W", "FENCE", "FAIL", "TAB(1)", "RTAB(1)")
	}
	switch d.below(6) {
	case 0, 1:
		return "(" + kid() + " " + kid() + ")"
	case 2:
		return "(" + kid() + " | " + kid() + ")"
	case 3:
		return "ARBNO(" + kid() + ")"
	}
	return "(" + kid() + ")" + pick(d.dice, " . ", " . ", " $ ") + pick(d.dice, "X", "Y", "Z", "P", "OUTPUT", "INPUT")
}

func (d mixed) line() string {
	body := ""
	switch d.below(9) {
	case 0:
	case 1:
		body = d.expr(2)
	case 2, 3, 4:
		body = d.target() + " = " + d.expr(d.below(3))
	case 5:
		body = d.expr(d.below(2)) + " ? [" + d.pat(d.below(3)) + "]"
	case 6, 7:
		body = d.target() + " ? [" + d.pat(d.below(3)) + "] = " + d.expr(d.below(3))
	case 8:
		body = pick(d.dice, "P", "R", "W") + " := [" + d.pat(d.below(3)) + "]"
	}
	label := func() string {
		return pick(d.dice, append(d.labels, "RETURN", "FRETURN", "RETURN", "FRETURN", "END")...)
	}
	switch d.below(8) {
	case 0:
		return body + " :(" + label() + ")"
	case 1:
		return body + " :S(" + label() + ")"
	case 2, 3:
		return body + " :F(" + label() + ")"
	case 4:
		return body + " :S(" + label() + ")F(" + label() + ")"
	}
	return body
}

// lines are a program in which nothing is wrong, of about so many lines.
func (d mixed) lines(n int) []string {
	var out []string
	for range n {
		out = append(out, " "+d.line())
	}
	for _, label := range d.labels {
		at := d.below(len(out) + 1)
		out = slices.Insert(out, at, label+" "+d.line())
	}
	for _, s := range []string{"F(P)" + pick(d.dice, "", "X", "X,Y"), "G(P,Q)" + pick(d.dice, "", "Z"), "H()" + pick(d.dice, "", "N", "N,X")} {
		out = slices.Insert(out, d.below(len(out)+1), " DEFINE "+s+" "+pick(d.dice, d.labels...))
	}
	return out
}

func usual() []string {
	return []string{"X", "Y", "Z", "N", "P", "Q", "F", "G", "H", "X", "Y", "N", "INPUT", "OUTPUT"}
}

func short() []string {
	return []string{"", "a", "b", "ab", "ba", "a b", "1", "2", "10", "-3", " 7 ", "+0", "x", "X", "Y", "N", "OUTPUT", "INPUT", "(a)b", "9223372036854775807", "-9223372036854775808", "007", "aabb", "\x00\xff"}
}

// program is a mixed program behind some lines, and lines that come in.
func (d mixed) program(t *testing.T, ahead ...string) (l []api.Statement, input []string) {
	t.Helper()
	lines := slices.Concat(ahead, d.lines(3+d.below(14)))
	l = program(t, lines...)
	if fault := check.Check(l); fault.Err != api.OK {
		t.Fatalf("Check of\n%s\nfault %v", strings.Join(lines, "\n"), fault)
	}
	for range d.below(6) {
		input = append(input, pick(d.dice, d.texts...))
	}
	return l, input
}

// In all the same as chapter 12: many programs, many lines, many limits.
func TestN1MixedPrograms(t *testing.T) {
	d := dice(201)
	g := mixed{&d, []string{"A", "B", "C", "D"}, short(), usual()}
	var how [4]int
	for range 15000 {
		l, input := g.program(t)
		for _, limit := range []int{d.below(10), d.below(40), d.below(400), 600} {
			ran := asRun(t, l, input, limit)
			how[ran.How]++
			if ran.How != api.RanLimit {
				break
			}
		}
		if t.Failed() {
			t.Fatalf("the program: %+v", l)
		}
	}
	if how[api.RanEnd] < 5000 || how[api.RanLimit] < 15000 {
		t.Errorf("%v: they do not tell much", how)
	}
}

// The same within each limit from none to where the run has ended.
func TestN1MixedLimits(t *testing.T) {
	d := dice(203)
	g := mixed{&d, []string{"A", "B", "C"}, short(), usual()}
	ended := 0
	for range 800 {
		l, input := g.program(t)
		for limit := range 80 {
			if ran := asRun(t, l, input, limit); ran.How != api.RanLimit && ran.Steps < limit {
				ended++
				break
			}
		}
		if t.Failed() {
			t.Fatalf("the program: %+v", l)
		}
	}
	if ended < 300 {
		t.Errorf("only %d runs ended", ended)
	}
}

// great are lines by which much is kept, and told.
func great() []string {
	out := []string{" L = DUPL('ab', 32768)", " M = DUPL('a', 65535)"}
	for i := range 12 {
		out = append(out, fmt.Sprintf(" V%d = L", i))
	}
	out = append(out, slices.Repeat([]string{" OUTPUT = L"}, 14)...)
	return append(out, " X = L", " Y = 'ab'", " Z = 'a'")
}

// Texts that are as long as can be: much is kept, and told.
func TestN1MixedGreatPrograms(t *testing.T) {
	d := dice(207)
	texts := append(short(), strings.Repeat("a", 700), strings.Repeat("b ", 300))
	g := mixed{&d, []string{"A", "B", "C", "D"}, texts, append(usual(), "L", "L", "M", "M", "V1", "OUTPUT", "OUTPUT")}
	var how [4]int
	for range 700 {
		l, input := g.program(t, great()...)
		how[asRun(t, l, input, d.below(3000)).How]++
		if t.Failed() {
			t.Fatalf("the program: %+v", l)
		}
	}
	if how[api.RanEnd] < 100 || how[api.RanLimit] < 100 || how[api.RanMuch] < 20 {
		t.Errorf("%v: they do not tell much", how)
	}
}

// Runs and traces as the model's, which goes through statements.
func TestN2MixedPrograms(t *testing.T) {
	d := dice(211)
	g := mixed{&d, []string{"A", "B", "C", "D"}, short(), usual()}
	var how, deep [4]int
	within := 0
	for range 5000 {
		l, input := g.program(t)
		m := asModel(t, l, input, d.below(300))
		how[m.how]++
		if n := len(m.seen); n > 0 && m.seen[n-1].Within > 0 {
			deep[m.how]++
		}
		if slices.ContainsFunc(m.seen, func(s api.Seen) bool { return s.Within > 1 }) {
			within++
		}
		if t.Failed() {
			t.Fatalf("the program: %+v", l)
		}
	}
	if how[api.RanEnd] < 1000 || how[api.RanLimit] < 1000 || deep[api.RanEnd] < 100 || deep[api.RanLimit] < 500 || within < 1000 {
		t.Errorf("%v, within calls %v, calls within one another in %d: they do not tell much", how, deep, within)
	}
}

func TestN2MixedGreatPrograms(t *testing.T) {
	d := dice(213)
	g := mixed{&d, []string{"A", "B"}, short(), append(usual(), "L", "L", "L", "L", "M", "M", "V1", "OUTPUT", "OUTPUT", "OUTPUT")}
	var how [4]int
	for range 300 {
		l, input := g.program(t, great()...)
		how[asModel(t, l, input, d.below(600)).how]++
		if t.Failed() {
			t.Fatalf("the program: %+v", l)
		}
	}
	if how[api.RanEnd] < 30 || how[api.RanLimit] < 30 || how[api.RanMuch] < 5 {
		t.Errorf("%v: they do not tell much", how)
	}
}

// Programs that give and tell as much as there is room for, in calls and matches, too.
func TestN1MixedKeeping(t *testing.T) {
	d := dice(217)
	var how [4]int
	text := func() string {
		return fmt.Sprintf("DUPL('%s', %d)", pick(&d, "a", "b"), pick(&d, 0, 1, 2, 65534, 65535, 65535, 65535, 65536, 65536, 65536, 65536, 65536))
	}
	name := func() string { return fmt.Sprint("A", d.below(18)) }
	for range 120 {
		lines := []string{fmt.Sprintf(" DEFINE F(A0,A1,B)A2,C%s F", pick(&d, "", ",A3,A4")), " DEFINE A5(A6)A7,A8 G :(GO)"}
		for _, label := range []string{"F", "G"} {
			lines = append(lines, label+" "+name()+" = "+text(), " "+name()+" = "+text(), " "+pick(&d, "F", "A5", "B", "A6")+" = "+text(), pick(&d, " :(RETURN)", " :(FRETURN)"))
		}
		lines = append(lines, "GO")
		for i := range 16 {
			lines = append(lines, fmt.Sprintf(" A%d = %s", i, text()))
		}
		for range 20 {
			lines = append(lines, " "+pick(&d, name()+" = "+text(), name()+" = "+name(), "T<"+text()+"> = "+text(), "T<"+name()+"> = ''", "OUTPUT = "+name(), "F("+name()+", "+name()+", "+name()+")", "A5("+name()+")",
				"F("+text()+")", name()+" ? [LEN(1) $ "+name()+" REM . "+name()+"]", name()+" ? [LEN(1)] = "+text(), "OUTPUT = A5() & F()", "A5(F('b', F()))"))
		}
		l := program(t, lines...)
		how[asRun(t, l, nil, 200).How]++
		asModel(t, l, nil, 200)
		if t.Failed() {
			t.Fatalf("the program:\n%s", strings.Join(lines, "\n"))
		}
	}
	if how[api.RanEnd] < 25 || how[api.RanMuch] < 25 {
		t.Errorf("%v: they do not tell much", how)
	}
}

// A trace has a statement each time that one was come to, and what is told within a limit is told within a greater one: but that the last ones have succeeded only then.
func TestN2AsRun(t *testing.T) {
	d := dice(219)
	g := mixed{&d, []string{"A", "B", "C"}, short(), usual()}
	for range 300 {
		l, input := g.program(t)
		var last []api.Seen
		for limit := range 50 {
			_, comings := answerTo(t, l, input, limit)
			seen := traceOf(t, l, input, limit)
			often := make([]int, len(l))
			for i, s := range seen {
				often[s.At]++
				if i < len(last) && (s.At != last[i].At || s.Within != last[i].Within || last[i].OK && !s.OK) {
					t.Fatalf("limit %d tells %s, one less %s", limit, trail(seen), trail(last))
				}
			}
			if !slices.Equal(often, comings) || len(seen) < len(last) {
				t.Fatalf("limit %d tells %s, one less %s; comings %v", limit, trail(seen), trail(last), comings)
			}
			last = seen
		}
	}
}
