package code_test

import (
	"fmt"
	"slices"
	"strings"
	"testing"

	"scanfail/api"
	"scanfail/code"
	"scanfail/syntax"
)

// Instructions, by what they do. Fields that are not named are empty or 0.

func step(n, to int) api.Instr        { return api.Instr{Op: api.OpStep, N: n, To: to} }
func text(s string) api.Instr         { return api.Instr{Op: api.OpText, Text: s} }
func read(s string) api.Instr         { return api.Instr{Op: api.OpRead, Text: s} }
func item(s string) api.Instr         { return api.Instr{Op: api.OpItem, Text: s} }
func name() api.Instr                 { return api.Instr{Op: api.OpName} }
func two(kind int) api.Instr          { return api.Instr{Op: api.OpTwo, N: kind} }
func makes(s string, n int) api.Instr { return api.Instr{Op: api.OpMake, Text: s, N: n} }
func call(s string, n int) api.Instr  { return api.Instr{Op: api.OpCall, Text: s, N: n} }
func variable(s string) api.Instr     { return api.Instr{Op: api.OpVar, Text: s} }
func entry(s string) api.Instr        { return api.Instr{Op: api.OpEntry, Text: s} }
func where() api.Instr                { return api.Instr{Op: api.OpWhere} }
func look() api.Instr                 { return api.Instr{Op: api.OpLook} }
func match(n int) api.Instr           { return api.Instr{Op: api.OpMatch, N: n} }
func find(n int) api.Instr            { return api.Instr{Op: api.OpFind, N: n} }
func mend() api.Instr                 { return api.Instr{Op: api.OpMend} }
func write() api.Instr                { return api.Instr{Op: api.OpWrite} }
func drop() api.Instr                 { return api.Instr{Op: api.OpDrop} }
func rule(n int) api.Instr            { return api.Instr{Op: api.OpRule, N: n} }
func jump(to int) api.Instr           { return api.Instr{Op: api.OpJump, To: to} }
func returns() api.Instr              { return api.Instr{Op: api.OpReturn} }
func fails() api.Instr                { return api.Instr{Op: api.OpFail} }
func end() api.Instr                  { return api.Instr{Op: api.OpEnd} }

// program reads lines, which must be right one by one.
func program(t *testing.T, lines ...string) []api.Statement {
	t.Helper()
	l, fault := syntax.Read(strings.Join(lines, "\n") + "\n")
	if fault != (api.Fault{}) {
		t.Fatalf("Read of %q: fault %v", lines, fault)
	}
	return l
}

// show is instructions, each with its number.
func show(l []api.Instr) string {
	out := ""
	for at, i := range l[:min(len(l), 200)] {
		out += fmt.Sprintf("\n%4d: %2d %.40q %d %d", at, i.Op, i.Text, i.N, i.To)
	}
	return out
}

// wantMade holds all that comes of statements against what must come.
func wantMade(t *testing.T, l []api.Statement, starts []int, want ...api.Instr) {
	t.Helper()
	got, at, fault := code.Make(l)
	if fault != (api.Fault{}) {
		t.Errorf("Make: fault %v; want none", fault)
	}
	if !slices.Equal(got, want) {
		t.Errorf("Make:%s\nwant:%s", show(got), show(want))
	}
	if !slices.Equal(at, starts) {
		t.Errorf("Make: they begin at %v; want %v", at, starts)
	}
}

// wantCode is wantMade of lines.
func wantCode(t *testing.T, lines []string, starts []int, want ...api.Instr) {
	t.Helper()
	wantMade(t, program(t, lines...), starts, want...)
	if t.Failed() {
		t.Logf("of %q", lines)
	}
}

// wantFault: beside a fault nothing is told (Z4).
func wantFault(t *testing.T, l []api.Statement, err api.Errno, at int) {
	t.Helper()
	out, starts, fault := code.Make(l)
	if want := (api.Fault{Err: err, At: at}); fault != want {
		t.Errorf("Make of %d statements: fault %v; want %v", len(l), fault, want)
	}
	if out != nil || starts != nil {
		t.Errorf("Make of %d statements: %d instructions, %v beside fault %v", len(l), len(out), starts, fault)
	}
}

// defined are the functions F, G and H, of none, two and eight Params, behind lines that go on at END.
func defined(lines ...string) []string {
	return append(lines, "L :(END)", " DEFINE F() L", " DEFINE G(A,B)C,D L", " DEFINE H(A,B,C,D,E,F,G,I) L")
}

// wantValue: an expression's instructions, as the first statement's whole body but OpDrop.
func wantValue(t *testing.T, x api.Expr, want ...api.Instr) {
	t.Helper()
	l := append([]api.Statement{{Kind: api.StEval, Value: x}}, program(t, defined()...)...)
	out, starts, fault := code.Make(l)
	if fault != (api.Fault{}) {
		t.Errorf("Make of %v: fault %v", x, fault)
		return
	}
	want = slices.Concat([]api.Instr{step(0, len(want)+2)}, want, []api.Instr{drop(), jump(len(want) + 3)})
	if got := out[:starts[1]]; !slices.Equal(got, want) {
		t.Errorf("Make of %v:%s\nwant:%s", x, show(got), show(want))
	}
}

// expr reads an expression.
func expr(t *testing.T, s string) api.Expr {
	t.Helper()
	return program(t, " "+s)[0].Value
}

// wantWords is wantValue of an expression in words.
func wantWords(t *testing.T, s string, want ...api.Instr) {
	t.Helper()
	wantValue(t, expr(t, s), want...)
}

// wantPlace: instructions of a place, ahead of those of what it is given.
func wantPlace(t *testing.T, place string, want ...api.Instr) {
	t.Helper()
	n := len(want)
	wantCode(t, []string{" " + place + " = 'v'"}, []int{0}, slices.Concat([]api.Instr{step(0, n+3)}, want, []api.Instr{text("v"), write(), jump(n + 4), end()})...)
	wantCode(t, []string{" " + place + " ? ['a'] = 'v'"}, []int{0}, slices.Concat([]api.Instr{step(0, n+6)}, want, []api.Instr{look(), find(0), text("v"), mend(), write(), jump(n + 7), end()})...)
}

// dice tells numbers that look mixed, the same ones each time.
type dice uint64

func (d *dice) below(n int) int {
	*d ^= *d << 13
	*d ^= *d >> 7
	*d ^= *d << 17
	return int(uint64(*d) >> 11 % uint64(n))
}

// pick is one of these.
func pick[T any](d *dice, l ...T) T { return l[d.below(len(l))] }
