package run_test

import (
	"fmt"
	"slices"
	"strings"
	"testing"

	"scanfail/api"
	"scanfail/check"
	"scanfail/run"
)

// asModel holds a run against what the model does, and tells how it ended.
func asModel(t *testing.T, l []api.Statement, input []string, limit int) (*model, int) {
	t.Helper()
	m, want := modelRun(l, input, limit)
	got, comings, fault := run.Run(l, input, limit)
	if fault != (api.Fault{}) || got.How != want.How || got.Steps != want.Steps || !slices.Equal(got.Output, want.Output) || !slices.Equal(got.Vars, want.Vars) || !slices.Equal(got.Items, want.Items) || !slices.Equal(comings, m.comings) {
		t.Errorf("input %q, limit %d:\n%s, fault %v; want\n%s", input, limit, show(got, comings), fault, show(want, m.comings))
	}
	return m, got.How
}

// mixed makes programs, line by line.
type mixed struct {
	*dice
	labels       []string
	texts, names []string // that expressions have
}

func (d mixed) variable() string { return pick(d.dice, d.names...) }

func (d mixed) expr(depth int) string {
	kid := func() string { return d.expr(depth - 1) }
	if depth <= 0 {
		return pick(d.dice, d.variable(), d.variable(), quoted(pick(d.dice, d.texts...)), fmt.Sprint(d.below(12)), "N")
	}
	switch d.below(12) {
	case 0:
		return pick(d.dice, "T", "S", "X", "INPUT") + "<" + kid() + ">"
	case 1:
		return "$(" + kid() + ")"
	case 2:
		return "-(" + kid() + ")"
	case 3, 4:
		return "(" + kid() + " " + pick(d.dice, "&", "&", "+", "-", "*", "/", "%") + " " + kid() + ")"
	case 5:
		return pick(d.dice, "SIZE", "TRIM", "REVERSE", "ROOT", "INTEGER") + "(" + kid() + ")"
	case 6:
		return pick(d.dice, "DUPL", "ROTATE", "COUNT", "EQ", "NE", "LT", "LE", "GT", "GE", "IDENT", "DIFFER", "LGT", "REMDR", "POWER", "GCD", "BASE", "UNBASE") + "(" + kid() + ", " + kid() + ")"
	case 7:
		return pick(d.dice, "REPLACE", "SUBSTR", "LPAD", "RPAD") + "(" + kid() + ", " + kid() + ", " + pick(d.dice, kid(), "' '") + ")"
	case 8:
		return "F(" + pick(d.dice, "", kid(), kid()) + ")"
	case 9:
		return "G(" + pick(d.dice, "", kid(), kid()+", "+kid()) + ")"
	case 10:
		return "H()"
	}
	return d.expr(0)
}

func (d mixed) target() string {
	return pick(d.dice, d.variable(), d.variable(), d.variable(), pick(d.dice, "T", "S", "X", "OUTPUT")+"<"+d.expr(1)+">", "$("+d.expr(1)+")", "$'Y'")
}

func (d mixed) pat(depth int) string {
	kid := func() string { return d.pat(depth - 1) }
	if depth <= 0 {
		return pick(d.dice, "'a'", "''", "'b'", "LEN(1)", "LEN(2)", "ANY('ab')", "SPAN('ab1')", "BREAK(' b')", "REM", "ARB", "BAL", "POS(0)", "RPOS(0)", "@X", "@OUTPUT", "*X", "*P", "*R", "*Q", "*W", "FENCE", "FAIL", "TAB(1)", "RTAB(1)")
	}
	switch d.below(6) {
	case 0, 1:
		return "(" + kid() + " " + kid() + ")"
	case 2:
		return "(" + kid() + " | " + kid() + ")"
	case 3:
		return "ARBNO(" + kid() + ")"
	}
	return "(" + kid() + ")" + pick(d.dice, " . ", " . ", " $ ") + pick(d.dice, "X", "Y", "Z", "P", "OUTPUT", "INPUT")
}

func (d mixed) line() string {
	body := ""
	switch d.below(9) {
	case 0:
	case 1:
		body = d.expr(2)
	case 2, 3, 4:
		body = d.target() + " = " + d.expr(d.below(3))
	case 5:
		body = d.expr(d.below(2)) + " ? [" + d.pat(d.below(3)) + "]"
	case 6, 7:
		body = d.target() + " ? [" + d.pat(d.below(3)) + "] = " + d.expr(d.below(3))
	case 8:
		body = pick(d.dice, "P", "R", "W") + " := [" + d.pat(d.below(3)) + "]"
	}
	label := func() string {
		return pick(d.dice, append(d.labels, "RETURN", "FRETURN", "RETURN", "FRETURN", "END")...)
	}
	switch d.below(8) {
	case 0:
		return body + " :(" + label() + ")"
	case 1:
		return body + " :S(" + label() + ")"
	case 2, 3:
		return body + " :F(" + label() + ")"
	case 4:
		return body + " :S(" + label() + ")F(" + label() + ")"
	}
	return body
}

// lines are a program in which nothing is wrong, of about so many lines.
func (d mixed) lines(n int) []string {
	var out []string
	for range n {
		out = append(out, " "+d.line())
	}
	for _, label := range d.labels {
		at := d.below(len(out) + 1)
		out = slices.Insert(out, at, label+" "+d.line())
	}
	for _, s := range []string{"F(P)" + pick(d.dice, "", "X", "X,Y"), "G(P,Q)" + pick(d.dice, "", "Z"), "H()" + pick(d.dice, "", "N", "N,X")} {
		out = slices.Insert(out, d.below(len(out)+1), " DEFINE "+s+" "+pick(d.dice, d.labels...))
	}
	return out
}

// tally is what became of programs that were held against the model: how they ended, in how many something failed, calls were too deep, and lines were told.
type tally struct {
	how               [4]int
	fails, deep, told int
}

func (y *tally) add(m *model, how int) {
	y.how[how]++
	y.fails += min(m.fails, 1)
	y.deep += min(m.deep, 1)
	y.told += min(len(m.out), 1)
}

// sweep holds so many mixed programs, behind some lines, against the model.
func sweep(t *testing.T, d mixed, programs, limit int, ahead ...string) (y tally) {
	t.Helper()
	for range programs {
		lines := slices.Concat(ahead, d.lines(3+d.below(14)))
		l := program(t, lines...)
		if fault := check.Check(l); fault.Err != api.OK {
			t.Fatalf("Check of\n%s\nfault %v", strings.Join(lines, "\n"), fault)
		}
		var input []string
		for range d.below(6) {
			input = append(input, pick(d.dice, d.texts...))
		}
		y.add(asModel(t, l, input, d.below(limit)))
		if t.Failed() {
			t.Fatalf("the program:\n%s", strings.Join(lines, "\n"))
		}
	}
	return y
}

func usual() []string {
	return []string{"X", "Y", "Z", "N", "P", "Q", "F", "G", "H", "X", "Y", "N", "INPUT", "OUTPUT"}
}

func short() []string {
	return []string{"", "a", "b", "ab", "ba", "a b", "1", "2", "10", "-3", " 7 ", "+0", "x", "X", "Y", "N", "OUTPUT", "INPUT", "(a)b", greatest, least, "007", "aabb", "\x00\xff"}
}

func TestL6MixedPrograms(t *testing.T) {
	d := dice(101)
	y := sweep(t, mixed{&d, []string{"A", "B", "C", "D"}, short(), usual()}, 15000, 400)
	if y.how[1] < 4000 || y.how[2] < 4000 || y.fails < 8000 || y.deep < 500 || y.told < 1000 {
		t.Errorf("%+v: they do not tell much", y)
	}
}

// Texts that are as long as can be: much is kept, and told.
func TestL6MixedGreatPrograms(t *testing.T) {
	d := dice(103)
	ahead := []string{" L = DUPL('ab', 32768)", " M = DUPL('a', 65535)"}
	for i := range 12 {
		ahead = append(ahead, fmt.Sprintf(" V%d = L", i))
	}
	for range 14 {
		ahead = append(ahead, " OUTPUT = L")
	}
	ahead = append(ahead, " X = L", " Y = 'ab'", " Z = 'a'")
	texts := append(short(), strings.Repeat("a", 700), strings.Repeat("b ", 300))
	g := mixed{&d, []string{"A", "B", "C", "D"}, texts, append(usual(), "L", "L", "M", "M", "V1", "OUTPUT", "OUTPUT")}
	y := sweep(t, g, 700, 3000, ahead...)
	if y.how[1] < 100 || y.how[2] < 100 || y.how[3] < 20 {
		t.Errorf("%+v: they do not tell much", y)
	}
}

// Programs that give and tell as much as there is room for, in calls and matches, too.
func TestL2MixedKeeping(t *testing.T) {
	d := dice(113)
	var how [4]int
	text := func() string {
		return fmt.Sprintf("DUPL('%s', %d)", pick(&d, "a", "b"), pick(&d, 0, 1, 2, 65534, 65535, 65535, 65535, 65536, 65536, 65536, 65536, 65536))
	}
	name := func() string { return fmt.Sprint("A", d.below(18)) }
	for range 300 {
		lines := []string{fmt.Sprintf(" DEFINE F(A0,A1,B)A2,C%s F", pick(&d, "", ",A3,A4")), " DEFINE A5(A6)A7,A8 G :(GO)"}
		for _, label := range []string{"F", "G"} {
			lines = append(lines, label+" "+name()+" = "+text(), " "+name()+" = "+text(), " "+pick(&d, "F", "A5", "B", "A6")+" = "+text(), pick(&d, " :(RETURN)", " :(FRETURN)"))
		}
		lines = append(lines, "GO")
		for i := range 16 {
			lines = append(lines, fmt.Sprintf(" A%d = %s", i, text()))
		}
		for range 20 {
			lines = append(lines, " "+pick(&d, name()+" = "+text(), name()+" = "+name(), "T<"+text()+"> = "+text(), "T<"+name()+"> = ''", "OUTPUT = "+name(), "F("+name()+", "+name()+", "+name()+")", "A5("+name()+")",
				"F("+text()+")", name()+" ? [LEN(1) $ "+name()+" REM . "+name()+"]", name()+" ? [LEN(1)] = "+text(), "OUTPUT = A5() & F()", "A5(F('b', F()))"))
		}
		_, end := asModel(t, program(t, lines...), nil, 200)
		how[end]++
		if t.Failed() {
			t.Fatalf("the program:\n%s", strings.Join(lines, "\n"))
		}
	}
	if how[api.RanEnd] < 60 || how[api.RanMuch] < 60 {
		t.Errorf("%v: they do not tell much", how)
	}
}

// Who has more time comes to the same: what a run does within a limit it does within any other one that is greater, step by step.
func TestL5MoreTime(t *testing.T) {
	d := dice(107)
	g := mixed{&d, []string{"A", "B", "C"}, short(), usual()}
	for range 600 {
		l := program(t, g.lines(10)...)
		last, _, _ := run.Run(l, []string{"a", "12"}, 0)
		for limit := 1; limit < 60; limit++ {
			ran, comings, fault := run.Run(l, []string{"a", "12"}, limit)
			sum := 0
			for _, n := range comings {
				sum += n
			}
			if fault != (api.Fault{}) || ran.Steps > limit || sum > ran.Steps || ran.How == api.RanLimit && ran.Steps != limit {
				t.Fatalf("limit %d: %s, fault %v", limit, show(ran, comings), fault)
			}
			if len(ran.Output) < len(last.Output) || !slices.Equal(ran.Output[:len(last.Output)], last.Output) {
				t.Fatalf("limit %d tells %q, one less %q", limit, ran.Output, last.Output)
			}
			if last.How != api.RanLimit && show(ran, nil) != show(last, nil) {
				t.Fatalf("limit %d: %s; one less: %s", limit, show(ran, nil), show(last, nil))
			}
			last = ran
		}
	}
}

// No run comes to what cannot be come to.
func TestL5Reached(t *testing.T) {
	d := dice(109)
	g := mixed{&d, []string{"A", "B", "C", "D"}, short(), usual()}
	never := 0
	for range 4000 {
		l := program(t, g.lines(12)...)
		reached, _ := check.Reached(l)
		_, comings, _ := run.Run(l, []string{"a", "12"}, 300)
		for i, n := range comings {
			if n > 0 && !reached[i] {
				t.Fatalf("statement %d is come to, though it can't be: %s", i, fmt.Sprint(comings))
			}
			if !reached[i] {
				never++
			}
		}
	}
	if never < 1000 {
		t.Errorf("only %d statements can't be come to", never)
	}
}
