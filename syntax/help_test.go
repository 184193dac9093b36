package syntax_test

import (
	"fmt"
	"slices"
	"strings"
	"testing"

	"scanfail/api"
	"scanfail/syntax"
)

func text(s string) api.Expr { return api.Expr{Kind: api.ExText, Text: s} }

func number(n int64) api.Expr { return api.Expr{Kind: api.ExNumber, N: n} }

func name(s string) api.Expr { return api.Expr{Kind: api.ExName, Name: s} }

func item(s string, kid api.Expr) api.Expr {
	return api.Expr{Kind: api.ExItem, Name: s, Kids: []api.Expr{kid}}
}

func indirect(kid api.Expr) api.Expr {
	return api.Expr{Kind: api.ExIndirect, Kids: []api.Expr{kid}}
}

func call(s string, kids ...api.Expr) api.Expr {
	return api.Expr{Kind: api.ExCall, Name: s, Kids: kids}
}

func neg(kid api.Expr) api.Expr { return api.Expr{Kind: api.ExNeg, Kids: []api.Expr{kid}} }

func two(kind int, a, b api.Expr) api.Expr {
	return api.Expr{Kind: kind, Kids: []api.Expr{a, b}}
}

func lit(s string) api.Pat { return api.Pat{Kind: api.PatLit, Text: s} }

func arb() api.Pat { return api.Pat{Kind: api.PatArb} }

func eval(x api.Expr) api.Statement { return api.Statement{Kind: api.StEval, Value: x} }

func assign(to, x api.Expr) api.Statement {
	return api.Statement{Kind: api.StAssign, Target: to, Value: x}
}

func match(x api.Expr, p api.Pat) api.Statement {
	return api.Statement{Kind: api.StMatch, Value: x, Pat: p}
}

func replace(to api.Expr, p api.Pat, x api.Expr) api.Statement {
	return api.Statement{Kind: api.StReplace, Target: to, Pat: p, Value: x}
}

func rule(s string, p api.Pat) api.Statement {
	return api.Statement{Kind: api.StRule, Name: s, Pat: p}
}

func define(s string, params, locals []string, entry string) api.Statement {
	return api.Statement{Kind: api.StDefine, Name: s, Params: params, Locals: locals, Entry: entry}
}

func empty() api.Statement { return api.Statement{Kind: api.StEmpty} }

// letters are the names A, B, C and so on, so many of them.
func letters(n int) []string {
	var out []string
	for i := range n {
		out = append(out, string(rune('A'+i)))
	}
	return out
}

// longest is a name of MaxName signs; with one more it is none.
const longest = "ABCDEFGHIJKLMN09"

// many is a text, so many times.
func many(s string, n int) string { return strings.Repeat(s, n) }

// nest is something in n pairs of brackets, or the like.
func nest(open, within, shut string, n int) string { return many(open, n) + within + many(shut, n) }

func sameList(a, b []string) bool { return slices.Equal(a, b) } // nil and empty are the same to it

func samePat(a, b api.Pat) bool {
	return a.Kind == b.Kind && a.Text == b.Text && a.N == b.N && a.Name == b.Name && slices.EqualFunc(a.Kids, b.Kids, samePat)
}

func sameExpr(a, b api.Expr) bool {
	return a.Kind == b.Kind && a.Text == b.Text && a.N == b.N && a.Name == b.Name && slices.EqualFunc(a.Kids, b.Kids, sameExpr)
}

// same tells whether two statements are the same in all fields; lists without entries are.
func same(a, b api.Statement) bool {
	return a.Label == b.Label && a.Kind == b.Kind && sameExpr(a.Target, b.Target) && sameExpr(a.Value, b.Value) && samePat(a.Pat, b.Pat) &&
		a.Name == b.Name && a.Entry == b.Entry && sameList(a.Params, b.Params) && sameList(a.Locals, b.Locals) &&
		a.Always == b.Always && a.Yes == b.Yes && a.Noes == b.Noes
}

func sameAll(a, b []api.Statement) bool { return slices.EqualFunc(a, b, same) }

func isNothing(s api.Statement) bool { return same(s, api.Statement{}) }

// brief is a text as a failure tells it: 2000 bytes of it would help nobody.
func brief(s string) string {
	if len(s) > 100 {
		return s[:100] + ".."
	}
	return s
}

func tell(x any) string { return brief(fmt.Sprintf("%+v", x)) }

func wantLine(t *testing.T, line string, want api.Statement) {
	t.Helper()
	got, some, fault := syntax.Line(line)
	if fault != (api.Fault{}) || !some || !same(got, want) {
		t.Errorf("Line %q (%d bytes): %s, %v, fault %v; want %s, true, no fault", brief(line), len(line), tell(got), some, fault, tell(want))
	}
}

// wantFault also asks Z4: beside a fault there is no statement.
func wantFault(t *testing.T, line string, err api.Errno, at int) {
	t.Helper()
	got, some, fault := syntax.Line(line)
	if fault != (api.Fault{Err: err, At: at}) || some || !isNothing(got) {
		t.Errorf("Line %q (%d bytes): %s, %v, fault %v; want nothing, false, fault {%d %d}", brief(line), len(line), tell(got), some, fault, err, at)
	}
}

func wantForm(t *testing.T, line string, at int) {
	t.Helper()
	wantFault(t, line, api.ErrForm, at)
}

// wantRemark: the line tells nothing, and nothing is wrong with it.
func wantRemark(t *testing.T, line string) {
	t.Helper()
	got, some, fault := syntax.Line(line)
	if fault != (api.Fault{}) || some || !isNothing(got) {
		t.Errorf("Line %q (%d bytes): %s, %v, fault %v; want nothing, false, no fault", brief(line), len(line), tell(got), some, fault)
	}
}

// wantValue: behind `=`, and all alone, an expression is read as this one.
func wantValue(t *testing.T, x string, want api.Expr) {
	t.Helper()
	wantLine(t, " V = "+x, assign(name("V"), want))
	wantLine(t, " "+x, eval(want))
}

func wantRead(t *testing.T, program string, want ...api.Statement) {
	t.Helper()
	got, fault := syntax.Read(program)
	if fault != (api.Fault{}) || !sameAll(got, want) {
		t.Errorf("Read %q (%d bytes): %d statements, %s, fault %v; want %d, %s, no fault", brief(program), len(program), len(got), tell(got), fault, len(want), tell(want))
	}
}

func wantReadFault(t *testing.T, program string, err api.Errno, at int) {
	t.Helper()
	got, fault := syntax.Read(program)
	if fault != (api.Fault{Err: err, At: at}) || len(got) > 0 {
		t.Errorf("Read %q (%d bytes): %d statements, fault %v; want none, fault {%d %d}", brief(program), len(program), len(got), fault, err, at)
	}
}

// wantExpr also asks Wrong of a statement with that value, and Print.
func wantExpr(t *testing.T, what string, x api.Expr, want api.Errno) {
	t.Helper()
	if got := syntax.Expr(x); got != want {
		t.Errorf("Expr of %s: error %d; want %d", what, got, want)
	}
	wantWrong(t, what, eval(x), want)
}

// wantWrong also asks Print and Show: they tell what is wrong, and nothing beside it (Z4).
func wantWrong(t *testing.T, what string, s api.Statement, want api.Errno) {
	t.Helper()
	if got := syntax.Wrong(s); got != want {
		t.Errorf("Wrong of %s: error %d; want %d", what, got, want)
	}
	if want == api.OK {
		return
	}
	if line, err := syntax.Print(s); line != "" || err != want {
		t.Errorf("Print of %s: %q, error %d; want nothing, error %d", what, brief(line), err, want)
	}
	wantShowFault(t, what, []api.Statement{empty(), s, {}}, want, 1)
}

// wantPrint also asks whether what is written is read as it was.
func wantPrint(t *testing.T, s api.Statement, want string) {
	t.Helper()
	got, err := syntax.Print(s)
	if err != api.OK || got != want {
		t.Errorf("Print of %s: %q (%d bytes), error %d; want %q (%d bytes)", tell(s), brief(got), len(got), err, brief(want), len(want))
		return
	}
	wantLine(t, got, s)
}

func wantNoPrint(t *testing.T, what string, s api.Statement, want api.Errno) {
	t.Helper()
	if wrong := syntax.Wrong(s); wrong != api.OK {
		t.Errorf("Wrong of %s: error %d; want none", what, wrong)
	}
	if got, err := syntax.Print(s); err != want || got != "" {
		t.Errorf("Print of %s: %q (%d bytes), error %d; want nothing, error %d", what, brief(got), len(got), err, want)
	}
	wantShowFault(t, what, []api.Statement{empty(), empty(), s, {}}, want, 2)
}

// wantPrinted: what x is, written as a value.
func wantPrinted(t *testing.T, x api.Expr, want string) {
	t.Helper()
	wantPrint(t, eval(x), " "+want)
	wantPrint(t, assign(name("V"), x), " V = "+want)
}

func wantShow(t *testing.T, l []api.Statement, want string) {
	t.Helper()
	got, fault := syntax.Show(l)
	if fault != (api.Fault{}) || got != want {
		t.Errorf("Show of %s: %q (%d bytes), fault %v; want %q (%d bytes), no fault", tell(l), brief(got), len(got), fault, brief(want), len(want))
	}
}

func wantShowFault(t *testing.T, what string, l []api.Statement, err api.Errno, at int) {
	t.Helper()
	got, fault := syntax.Show(l)
	if fault != (api.Fault{Err: err, At: at}) || got != "" {
		t.Errorf("Show of %d with %s: %q (%d bytes), fault %v; want nothing, fault {%d %d}", len(l), what, brief(got), len(got), fault, err, at)
	}
}

// dice tells numbers that look mixed, the same ones each time.
type dice uint64

func (d *dice) below(n int) int {
	*d ^= *d << 13
	*d ^= *d >> 7
	*d ^= *d << 17
	return int(uint64(*d) >> 11 % uint64(n))
}
