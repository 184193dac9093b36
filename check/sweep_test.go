package check_test

import (
	"testing"

	"scanfail/api"
	"scanfail/check"
	"scanfail/syntax"
)

// asModel holds what is said of a program against what the model says; it tells whether the program is right.
func asModel(t *testing.T, l []api.Statement) bool {
	t.Helper()
	want := modelCheck(l)
	if want.Err != api.OK {
		wantFault(t, l, want.Err, want.At)
		return false
	}
	wantReached(t, l, bits(modelReached(l)))
	return true
}

// eachProgram holds all programs of up to n of these statements, behind some, against the model.
func eachProgram(t *testing.T, ahead, from []api.Statement, n int) (good, all int) {
	if asModel(t, ahead) {
		good++
	}
	all++
	if n == 0 || t.Failed() {
		return good, all
	}
	for _, s := range from {
		g, a := eachProgram(t, append(ahead[:len(ahead):len(ahead)], s), from, n-1)
		good, all = good+g, all+a
	}
	return good, all
}

func TestK2AllShortPrograms(t *testing.T) {
	from := program(t,
		"L", "M X = 1", "END :(L)", " :(L)", " X = 1 :S(L)", " X = 1 :F(M)", " X = 1 :S(M)F(END)", " :F(L)", " :S(M)",
		" DEFINE F(A) L", " DEFINE F() M", "L DEFINE G(A)B M", " DEFINE G(A)A L", " DEFINE SIZE() L",
		" F()", " F(1) :(END)", " X<G(1, 2)> = F()", " SIZE(F(1))", " SIZE(1, F()) :(L)", "M G() ? [ARB] :(RETURN)", " P := [*F] :F(L)",
	)
	good, all := eachProgram(t, nil, from, 3)
	if good < 300 || all-good < 3000 {
		t.Errorf("%d programs, %d of them right: they do not tell much", all, good)
	}
}

// Programs of four statements whose ways on are of all sorts: what is come to.
func TestK3AllShortPrograms(t *testing.T) {
	good, all := 0, 0
	for _, begin := range []string{"A X = 1", "A F() :(B)", "A :S(C)"} {
		lines := []string{"", " :(A)", " X = 1 :F(B)", " X = F() :(C)", " X = 1 :S(A)F(C)", " :S(C)F(B)", " F() ? [ARB] :(END)", " DEFINE F() B", " DEFINE F() C :(END)"}
		for _, b := range lines {
			for _, c := range lines {
				for _, d := range lines {
					for _, e := range lines {
						all++
						if asModel(t, program(t, begin, "B"+b, d+" ", "C"+c, e+" ")) {
							good++
						}
					}
				}
				if t.Failed() {
					return
				}
			}
		}
	}
	if good < 4000 || all-good < 4000 {
		t.Errorf("%d programs, %d of them right: they do not tell much", all, good)
	}
}

// pick is one of these texts.
func pick(d *dice, l ...string) string { return l[d.below(len(l))] }

// mixedExpr is an expression with calls in it, most of which are right.
func mixedExpr(d *dice, depth int) api.Expr {
	kid := func() api.Expr { return mixedExpr(d, depth-1) }
	if depth == 0 {
		return []api.Expr{text("a"), number(1), name("X"), name("F"), call("H")}[d.below(5)]
	}
	switch d.below(8) {
	case 0:
		return item(pick(d, "X", "F", "SIZE"), kid())
	case 1:
		return api.Expr{Kind: api.ExIndirect, Kids: []api.Expr{kid()}}
	case 2:
		return neg(kid())
	case 3:
		return two(api.ExCat+d.below(6), kid(), kid())
	case 4:
		return call("SIZE", kid())
	case 5, 6:
		x := call(pick(d, "F", "F", "G", "G", "H", "EQ", "I"))
		for range map[string]int{"F": 1, "G": 2, "EQ": 2}[x.Name] {
			x.Kids = append(x.Kids, kid())
		}
		if d.below(12) == 0 {
			x.Kids = append(x.Kids, kid())
		}
		return x
	}
	return mixedExpr(d, 0)
}

// mixedStatement has one of all labels, or none, and goes on somewhere.
func mixedStatement(d *dice, labels []string) api.Statement {
	s := api.Statement{Kind: 1 + d.below(7), Pat: arb(), Name: "P", Value: mixedExpr(d, d.below(4))}
	if s.Kind == api.StDefine {
		s.Kind = api.StEval // functions are defined apart
	}
	s.Target = []api.Expr{name("X"), item("X", mixedExpr(d, 2)), {Kind: api.ExIndirect, Kids: []api.Expr{mixedExpr(d, 2)}}}[d.below(3)]
	label := func() string {
		if d.below(30) == 0 {
			return pick(d, "NOWHERE", "F", "X")
		}
		return append(labels, "END", "RETURN", "FRETURN")[d.below(len(labels)+3)]
	}
	switch d.below(6) {
	case 0:
		s.Always = label()
	case 1:
		s.Yes = label()
	case 2:
		s.Noes = label()
	case 3:
		s.Yes, s.Noes = label(), label()
	}
	return s
}

// mixedDefine is a StDefine, which is right most of the time.
func mixedDefine(d *dice, s string, labels []string) api.Statement {
	x := define(s, letters(map[string]int{"F": 1, "G": 2}[s]), []string{"X", "Y"}[:d.below(3)], labels[d.below(len(labels))])
	switch d.below(30) {
	case 0:
		x.Name = pick(d, "F", "G", "H", "I", "SIZE", "OUTPUT")
	case 1:
		x.Params = append(x.Params, pick(d, "A", "B", "X", "F", "G", "H", "INPUT", "OUTPUT", "SIZE"))
	case 2:
		x.Locals = append([]string{pick(d, "A", "B", "X", "F", "G", "H", "INPUT", "OUTPUT", "SIZE")}, x.Locals...)
	case 3:
		x.Entry = pick(d, "END", "RETURN", "NOWHERE", "F")
	}
	return x
}

// mixedProgram is a program of up to so many statements, and the functions F, G and H somewhere.
func mixedProgram(d *dice, most int) []api.Statement {
	labels := []string{"A", "B", "C", "D", "E"}[:1+d.below(5)]
	l := make([]api.Statement, max(len(labels), d.below(most+1)))
	for i := range l {
		l[i] = mixedStatement(d, labels)
	}
	for i, label := range labels {
		at := d.below(len(l))
		for l[at].Label != "" {
			at = (at + 1) % len(l)
		}
		l[at].Label = label
		if d.below(60) == 0 {
			l[at].Label = pick(d, "END", "RETURN", "FRETURN", labels[i/2], "Z")
		}
	}
	for _, s := range []string{"F", "G", "H"} {
		at := d.below(len(l) + 1)
		l = join(l[:at], []api.Statement{mixedDefine(d, s, labels)}, l[at:])
	}
	if d.below(20) == 0 {
		l[d.below(len(l))] = []api.Statement{{}, labelled("a", empty()), eval(number(-1)), assign(call("F"), number(1)), eval(endless(api.ExAdd, 2))}[d.below(5)]
	}
	return l
}

func TestK2MixedPrograms(t *testing.T) {
	d := dice(61)
	good, faults := 0, map[api.Errno]int{}
	for range 30000 {
		l := mixedProgram(&d, 14)
		if asModel(t, l) {
			good++
		}
		faults[check.Check(l).Err]++
		if t.Failed() {
			return
		}
	}
	for _, err := range []api.Errno{api.OK, api.ErrName, api.ErrNone, api.ErrMany, api.ErrKind, api.ErrRange, api.ErrFit, api.ErrMuch} {
		if faults[err] < 20 {
			t.Errorf("only %d programs with error %d", faults[err], err)
		}
	}
	if good < 3000 {
		t.Errorf("only %d programs are right", good)
	}
}

// What is written and read again is said the same of.
func TestK2WrittenAndRead(t *testing.T) {
	d := dice(67)
	written := 0
	for range 4000 {
		l := mixedProgram(&d, 10)
		s, fault := syntax.Show(l)
		if fault.Err != api.OK {
			continue
		}
		again, fault := syntax.Read(s)
		if fault.Err != api.OK {
			t.Fatalf("Read of %q: fault %v", s, fault)
		}
		written++
		want := check.Check(l)
		reached, _ := check.Reached(l)
		if want.Err == api.OK {
			wantReached(t, again, bits(reached))
		} else {
			wantFault(t, again, want.Err, want.At)
		}
	}
	if written < 3000 {
		t.Errorf("only %d programs could be written", written)
	}
}
