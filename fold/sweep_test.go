package fold_test

import (
	"fmt"
	"slices"
	"strings"
	"testing"

	"scanfail/api"
	"scanfail/check"
)

// mixed makes programs, line by line, in which much can be made quicker.
type mixed struct {
	*dice
	labels []string
}

func (d mixed) text() string {
	return quoted(pick(d.dice, "", "a", "b", "ab", "ba", "a b", "1", "2", "10", "-3", " 7 ", "+0", "x", "X", "Y", "0", "00", "007", "OUTPUT", greatest, least, "aabb", "'", "\x00\xff"))
}

func (d mixed) expr(depth int) string {
	kid := func() string { return d.expr(depth - 1) }
	if depth <= 0 {
		return pick(d.dice, d.text(), d.text(), d.text(), fmt.Sprint(d.below(12)), fmt.Sprint(d.below(3)), fmt.Sprint(d.below(3)), pick(d.dice, "X", "Y", "Z", "N", "P", "INPUT"))
	}
	switch d.below(14) {
	case 0:
		return pick(d.dice, "T", "S", "X") + "<" + kid() + ">"
	case 1:
		return "$(" + kid() + ")"
	case 2:
		return "-(" + kid() + ")"
	case 3, 4, 5, 6:
		return "(" + kid() + " " + pick(d.dice, "&", "&", "+", "-", "*", "/", "%") + " " + kid() + ")"
	case 7, 8:
		return pick(d.dice, "SIZE", "TRIM", "REVERSE", "ROOT", "INTEGER") + "(" + kid() + ")"
	case 9, 10:
		return pick(d.dice, "DUPL", "ROTATE", "COUNT", "EQ", "NE", "LT", "LE", "GT", "GE", "IDENT", "DIFFER", "LGT", "REMDR", "POWER", "GCD", "BASE", "UNBASE") + "(" + kid() + ", " + kid() + ")"
	case 11:
		return pick(d.dice, "REPLACE", "SUBSTR", "LPAD", "RPAD") + "(" + kid() + ", " + kid() + ", " + pick(d.dice, kid(), "' '", "1") + ")"
	case 12:
		return pick(d.dice, "F("+pick(d.dice, "", kid())+")", "G("+kid()+", "+kid()+")")
	}
	return d.expr(0)
}

func (d mixed) target() string {
	return pick(d.dice, "X", "Y", "Z", "OUTPUT", "OUTPUT", pick(d.dice, "T", "S", "X")+"<"+d.expr(2)+">", "$("+d.expr(2)+")", "$('X' & "+pick(d.dice, "''", "1", "'Y'")+")")
}

func (d mixed) pat(depth int) string {
	kid := func() string { return d.pat(depth - 1) }
	if depth <= 0 {
		return pick(d.dice, "'a'", "'b'", "''", "''", "LEN(0)", "LEN(1)", "LEN(1)", "LEN(2)", "ANY('ba')", "ANY('a')", "SPAN('ba1')", "BREAK(' b')", "REM", "ARB", "BAL", "POS(0)", "RPOS(0)", "RTAB(0)", "@X", "@OUTPUT", "*X", "*P", "*R", "FENCE", "FAIL", "FAIL", "ABORT")
	}
	switch d.below(7) {
	case 0, 1:
		return "(" + kid() + " " + kid() + ")"
	case 2, 3:
		return "(" + kid() + " | " + kid() + ")"
	case 4:
		return "ARBNO(" + kid() + ")"
	}
	return "(" + kid() + ")" + pick(d.dice, " . ", " . ", " $ ") + pick(d.dice, "X", "Y", "Z", "P", "OUTPUT")
}

func (d mixed) label() string {
	return pick(d.dice, append(d.labels, "RETURN", "FRETURN", "END")...)
}

func (d mixed) line() string {
	body := ""
	switch d.below(12) {
	case 0, 1, 2, 3:
		return pick(d.dice, ":("+d.label()+")", ":("+d.label()+")", ":("+d.label()+")", ":S("+d.label()+")", ":F("+d.label()+")", "")
	case 4:
		body = d.expr(2)
	case 5, 6:
		body = d.target() + " = " + d.expr(1+d.below(3))
	case 7, 8:
		body = d.expr(d.below(2)) + " ? [" + d.pat(d.below(4)) + "]"
	case 9, 10:
		body = d.target() + " ? [" + d.pat(d.below(4)) + "] = " + d.expr(d.below(3))
	case 11:
		body = pick(d.dice, "P", "R") + " := [" + d.pat(d.below(4)) + "]"
	}
	return body + pick(d.dice, "", "", " :("+d.label()+")", " :S("+d.label()+")", " :F("+d.label()+")", " :S("+d.label()+")F("+d.label()+")")
}

// lines are a program in which nothing is wrong, of about so many lines.
func (d mixed) lines(n int) []string {
	var out []string
	for range n {
		out = append(out, " "+d.line())
	}
	for _, label := range d.labels {
		at := d.below(len(out) + 1)
		out = slices.Insert(out, at, label+" "+d.line())
	}
	for _, s := range []string{"F(P)" + pick(d.dice, "", "X", "X,Y"), "G(P,Q)" + pick(d.dice, "", "Z")} {
		out = slices.Insert(out, d.below(len(out)+1), " DEFINE "+s+" "+pick(d.dice, d.labels...))
	}
	return out
}

// program is a mixed program, and lines that come in.
func (d mixed) program(t *testing.T) (l []api.Statement, input []string) {
	t.Helper()
	lines := d.lines(2 + d.below(14))
	l = program(t, lines...)
	if fault := check.Check(l); fault.Err != api.OK {
		t.Fatalf("Check of\n%s\nfault %v", strings.Join(lines, "\n"), fault)
	}
	for range d.below(5) {
		input = append(input, pick(d.dice, "a", "", "ab a", "12", "-1", "(b)"))
	}
	return l, input
}

// nodes is how many nodes expressions of a program have.
func nodes(l []api.Statement) int {
	n := 0
	var count func(x api.Expr)
	count = func(x api.Expr) {
		n++
		for _, kid := range x.Kids {
			count(kid)
		}
	}
	for _, s := range l {
		count(s.Target)
		count(s.Value)
	}
	return n
}

// Mixed programs become what the model says, and do as they did.
func TestP4MixedPrograms(t *testing.T) {
	d := dice(301)
	g := mixed{&d, []string{"A", "B", "C", "D"}}
	var how [4]int
	folded, pats, ways, faster := 0, 0, 0, 0
	for range 12000 {
		l, input := g.program(t)
		k := quicker(t, l)
		o := asBefore(t, l, k, input, 1000)
		how[o.how]++
		faster += min(o.fewer, 1)
		if nodes(k) < nodes(l) {
			folded++
		}
		if !slices.EqualFunc(k, l, func(a, b api.Statement) bool { return samePat(a.Pat, b.Pat) }) {
			pats++
		}
		if !slices.EqualFunc(k, l, func(a, b api.Statement) bool { return a.Always == b.Always && a.Yes == b.Yes && a.Noes == b.Noes }) {
			ways++
		}
		if t.Failed() {
			return
		}
	}
	if how[api.RanEnd] < 8000 || folded < 8000 || pats < 4000 || ways < 4000 || faster < 1500 {
		t.Errorf("how they ended %v; expressions became less in %d, patterns others in %d, ways others in %d, %d took fewer steps: they do not tell much", how, folded, pats, ways, faster)
	}
}

// So they do within each limit within which they have ended.
func TestP4MixedLimits(t *testing.T) {
	d := dice(303)
	g := mixed{&d, []string{"A", "B", "C"}}
	ended := 0
	for range 1500 {
		l, input := g.program(t)
		k := quicker(t, l)
		o := asBefore(t, l, k, input, 400)
		if o.how == api.RanLimit {
			continue
		}
		for limit := max(o.steps-2, 0); limit < o.steps+2; limit++ {
			if asBefore(t, l, k, input, limit).how != api.RanLimit {
				ended++
			}
		}
		if t.Failed() {
			return
		}
	}
	if ended < 1500 {
		t.Errorf("only %d runs ended", ended)
	}
}

// All chains of a few statements that lead to one another, or out, or nowhere.
func TestP3AllShortChains(t *testing.T) {
	labels := []string{"A", "B", "C", "END", ""}
	for n := range 5 * 5 * 5 * 5 * 8 {
		rest := n
		digit := func(below int) int {
			d := rest % below
			rest /= below
			return d
		}
		var l []api.Statement
		for _, label := range labels[:3] {
			l = append(l, api.Statement{Label: label, Kind: api.StEmpty, Always: labels[digit(5)]})
		}
		l = append(l, api.Statement{Kind: api.StEmpty, Yes: labels[digit(5)], Noes: "A"})
		for i := range l[:3] {
			if digit(2) == 1 {
				l[i].Kind, l[i].Value = api.StEval, name("X")
			}
		}
		quicker(t, l)
		if t.Failed() {
			return
		}
	}
}

// Each operator and each function of the language, with each of some texts and numbers.
func TestP1AllOfSomeKids(t *testing.T) {
	texts := []string{"''", "'a'", "'ab'", "'ba'", "'b '", "0", "1", "2", "12", "'0'", "'00'", "'-1'", "' 7'", "'" + least + "'", greatest}
	known := 0
	try := func(x string) {
		l := program(t, " "+x)
		if k := quicker(t, l); len(k[0].Value.Kids) == 0 {
			known++
		}
	}
	for _, a := range texts {
		for _, f := range []string{"-", "SIZE", "TRIM", "REVERSE", "ROOT", "INTEGER"} {
			try(f + "(" + a + ")")
		}
		for _, b := range texts {
			for _, sign := range []string{"&", "+", "-", "*", "/", "%"} {
				try(a + " " + sign + " " + b)
			}
			for _, f := range []string{"DUPL", "ROTATE", "COUNT", "EQ", "NE", "LT", "LE", "GT", "GE", "IDENT", "DIFFER", "LGT", "REMDR", "POWER", "GCD", "BASE", "UNBASE"} {
				try(f + "(" + a + ", " + b + ")")
			}
			for _, c := range texts[:7] {
				for _, f := range []string{"REPLACE", "SUBSTR", "LPAD", "RPAD"} {
					try(f + "(" + a + ", " + b + ", " + c + ")")
				}
			}
		}
	}
	if known < 3000 {
		t.Errorf("only %d are known", known)
	}
}
