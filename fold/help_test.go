package fold_test

import (
	"fmt"
	"slices"
	"strings"
	"testing"

	"scanfail/api"
	"scanfail/check"
	"scanfail/fold"
	"scanfail/machine"
	"scanfail/run"
	"scanfail/syntax"
)

const (
	greatest = "9223372036854775807"
	least    = "-9223372036854775808"
)

func text(s string) api.Expr { return api.Expr{Kind: api.ExText, Text: s} }

func number(n int64) api.Expr { return api.Expr{Kind: api.ExNumber, N: n} }

func name(s string) api.Expr { return api.Expr{Kind: api.ExName, Name: s} }

func call(s string, kids ...api.Expr) api.Expr {
	return api.Expr{Kind: api.ExCall, Name: s, Kids: kids}
}

func neg(kid api.Expr) api.Expr { return api.Expr{Kind: api.ExNeg, Kids: []api.Expr{kid}} }

func two(kind int, a, b api.Expr) api.Expr { return api.Expr{Kind: kind, Kids: []api.Expr{a, b}} }

func eval(x api.Expr) api.Statement { return api.Statement{Kind: api.StEval, Value: x} }

func assign(to, x api.Expr) api.Statement {
	return api.Statement{Kind: api.StAssign, Target: to, Value: x}
}

// program reads lines, which must be right one by one.
func program(t *testing.T, lines ...string) []api.Statement {
	t.Helper()
	l, fault := syntax.Read(strings.Join(lines, "\n"))
	if fault != (api.Fault{}) {
		t.Fatalf("Read of %q: fault %v", lines, fault)
	}
	return l
}

// tell is a program as a failure tells it: its lines, where they can be written.
func tell(l []api.Statement) string {
	s, fault := syntax.Show(l)
	if fault.Err != api.OK {
		s = fmt.Sprintf("%d statements: %+v", len(l), l[:min(len(l), 3)])
	}
	if len(s) > 2000 {
		s = s[:2000] + ".."
	}
	return "\n" + s
}

// Lists without entries are the same as nil.

func sameExpr(a, b api.Expr) bool {
	return a.Kind == b.Kind && a.Text == b.Text && a.N == b.N && a.Name == b.Name && slices.EqualFunc(a.Kids, b.Kids, sameExpr)
}

func samePat(a, b api.Pat) bool {
	return a.Kind == b.Kind && a.Text == b.Text && a.N == b.N && a.Name == b.Name && slices.EqualFunc(a.Kids, b.Kids, samePat)
}

func sameStatement(a, b api.Statement) bool {
	return a.Label == b.Label && a.Kind == b.Kind && sameExpr(a.Target, b.Target) && sameExpr(a.Value, b.Value) && samePat(a.Pat, b.Pat) &&
		a.Name == b.Name && a.Entry == b.Entry && slices.Equal(a.Params, b.Params) && slices.Equal(a.Locals, b.Locals) &&
		a.Always == b.Always && a.Yes == b.Yes && a.Noes == b.Noes
}

func same(a, b []api.Statement) bool { return slices.EqualFunc(a, b, sameStatement) }

// quicker is what a program becomes in which nothing is wrong. It is as the model says, right by Check, and stays as it is from then on.
func quicker(t *testing.T, l []api.Statement) []api.Statement {
	t.Helper()
	k, fault := fold.Program(l)
	if fault != (api.Fault{}) || len(k) != len(l) {
		t.Fatalf("Program of%s\n%d statements, fault %v", tell(l), len(k), fault)
	}
	if want := modelProgram(l); !same(k, want) {
		t.Errorf("Program of%s\nbecomes%s\nthe model:%s", tell(l), tell(k), tell(want))
	}
	if fault := check.Check(k); fault != (api.Fault{}) {
		t.Errorf("Program of%s\nbecomes%s\nfault %v", tell(l), tell(k), fault)
	}
	if again, fault := fold.Program(k); fault != (api.Fault{}) || !same(again, k) {
		t.Errorf("Program of%s\nbecomes%s\nthat, fault %v,%s", tell(l), tell(k), fault, tell(again))
	}
	return k
}

// wantQuicker: lines become these.
func wantQuicker(t *testing.T, lines []string, want ...string) {
	t.Helper()
	l, w := program(t, lines...), program(t, want...)
	k := quicker(t, l)
	if !same(k, w) {
		t.Errorf("Program of%s\nbecomes%s\nwant%s", tell(l), tell(k), tell(w))
	}
	asBefore(t, l, k, nil, 200)
	asBefore(t, l, k, []string{"a", "12", "", "ab c"}, 200)
}

// wantStays: nothing is to be made quicker in these lines.
func wantStays(t *testing.T, lines ...string) {
	t.Helper()
	wantQuicker(t, lines, lines...)
}

// places are lines in which an expression stands, wherever one can.
func places(x string) []string {
	return []string{
		" " + x, " " + x + " ? [ARB]", " X = " + x, " X ? [ARB] = " + x,
		" T<" + x + "> = 1", " T<" + x + "> ? [ARB] = 1", " $(" + x + ") = 1", " $(" + x + ") ? [ARB] = 1",
		" X = T<" + x + ">", " X = $(" + x + ")", " T<T<" + x + ">> = -$(" + x + ")", " X = F(X, " + x + ")",
		" DEFINE F(A,B) L", "L",
	}
}

// wantExpr: an expression becomes that, wherever it stands.
func wantExpr(t *testing.T, x, want string) {
	t.Helper()
	wantQuicker(t, places(x), places(want)...)
}

// wantExprStays: an expression stays as it is.
func wantExprStays(t *testing.T, l ...string) {
	t.Helper()
	for _, x := range l {
		wantExpr(t, x, x)
	}
}

// wantFault: beside a fault nothing is told (Z4).
func wantFault(t *testing.T, l []api.Statement, err api.Errno, at int) {
	t.Helper()
	want := api.Fault{Err: err, At: at}
	if k, fault := fold.Program(l); fault != want || len(k) > 0 {
		t.Errorf("Program of %d statements: %d statements, fault %v; want none, fault %v", len(l), len(k), fault, want)
	}
}

// sameRan tells whether two runs came to the same.
func sameRan(a, b api.Ran) bool {
	return a.How == b.How && slices.Equal(a.Output, b.Output) && slices.Equal(a.Vars, b.Vars) && slices.Equal(a.Items, b.Items)
}

// outcome is what became of a program that was run before and after.
type outcome struct {
	how          int
	steps, fewer int
}

// asBefore: where the run of a program ends by itself, the run of what it has become tells and keeps the same, within no more steps; the machine does, too.
func asBefore(t *testing.T, l, k []api.Statement, input []string, limit int) outcome {
	t.Helper()
	before, _, fault := run.Run(l, input, limit)
	if fault != (api.Fault{}) {
		t.Fatalf("Run of%s\nfault %v", tell(l), fault)
	}
	if before.How == api.RanLimit {
		return outcome{how: api.RanLimit}
	}
	after, _, fault := run.Run(k, input, limit)
	if fault != (api.Fault{}) || !sameRan(after, before) || after.Steps > before.Steps {
		t.Errorf("Run of%s\ninput %q: %+v\nmade quicker,%s\nit is %+v, fault %v", tell(l), input, before, tell(k), after, fault)
	}
	byMachine, _, fault := machine.Run(k, input, limit)
	if fault != (api.Fault{}) || !sameRan(byMachine, before) || byMachine.Steps != after.Steps {
		t.Errorf("Run of%s\ninput %q: %+v\nmade quicker, by the machine, it is %+v, fault %v", tell(l), input, before, byMachine, fault)
	}
	return outcome{how: before.How, steps: before.Steps, fewer: before.Steps - after.Steps}
}

// dice tells numbers that look mixed, the same ones each time.
type dice uint64

func (d *dice) below(n int) int {
	*d ^= *d << 13
	*d ^= *d >> 7
	*d ^= *d << 17
	return int(uint64(*d) >> 11 % uint64(n))
}

// pick is one of these.
func pick[T any](d *dice, l ...T) T { return l[d.below(len(l))] }

// quoted is a text as a program has it.
func quoted(s string) string { return "'" + strings.ReplaceAll(s, "'", "''") + "'" }
