package check_test

import (
	"fmt"
	"slices"
	"strings"
	"testing"

	"scanfail/api"
	"scanfail/check"
	"scanfail/syntax"
)

func text(s string) api.Expr { return api.Expr{Kind: api.ExText, Text: s} }

func number(n int64) api.Expr { return api.Expr{Kind: api.ExNumber, N: n} }

func name(s string) api.Expr { return api.Expr{Kind: api.ExName, Name: s} }

func item(s string, kid api.Expr) api.Expr {
	return api.Expr{Kind: api.ExItem, Name: s, Kids: []api.Expr{kid}}
}

func call(s string, kids ...api.Expr) api.Expr {
	return api.Expr{Kind: api.ExCall, Name: s, Kids: kids}
}

// calling is a call with so many kids.
func calling(s string, kids int) api.Expr {
	x := call(s)
	for i := range kids {
		x.Kids = append(x.Kids, number(int64(i)))
	}
	return x
}

func neg(kid api.Expr) api.Expr { return api.Expr{Kind: api.ExNeg, Kids: []api.Expr{kid}} }

func two(kind int, a, b api.Expr) api.Expr { return api.Expr{Kind: kind, Kids: []api.Expr{a, b}} }

func arb() api.Pat { return api.Pat{Kind: api.PatArb} }

func empty() api.Statement { return api.Statement{Kind: api.StEmpty} }

func eval(x api.Expr) api.Statement { return api.Statement{Kind: api.StEval, Value: x} }

func assign(to, x api.Expr) api.Statement {
	return api.Statement{Kind: api.StAssign, Target: to, Value: x}
}

func match(x api.Expr) api.Statement {
	return api.Statement{Kind: api.StMatch, Value: x, Pat: arb()}
}

func replace(to, x api.Expr) api.Statement {
	return api.Statement{Kind: api.StReplace, Target: to, Pat: arb(), Value: x}
}

func rule(s string) api.Statement { return api.Statement{Kind: api.StRule, Name: s, Pat: arb()} }

func define(s string, params, locals []string, entry string) api.Statement {
	return api.Statement{Kind: api.StDefine, Name: s, Params: params, Locals: locals, Entry: entry}
}

func labelled(label string, s api.Statement) api.Statement {
	s.Label = label
	return s
}

func always(s api.Statement, label string) api.Statement {
	s.Always = label
	return s
}

func onYes(s api.Statement, label string) api.Statement {
	s.Yes = label
	return s
}

func onNoes(s api.Statement, label string) api.Statement {
	s.Noes = label
	return s
}

// eachKind has a statement of each kind, which nothing is wrong with but that F may be nobody and L nowhere.
func eachKind() []api.Statement {
	return []api.Statement{
		empty(), eval(number(1)), assign(name("X"), number(1)), match(name("X")), replace(name("X"), number(1)), rule("P"), define("F", []string{"A"}, []string{"B"}, "L"),
	}
}

// some are so many statements, which do nothing.
func some(n int) []api.Statement {
	l := make([]api.Statement, n)
	for i := range l {
		l[i] = empty()
	}
	return l
}

// program reads lines, which must be right one by one.
func program(t *testing.T, lines ...string) []api.Statement {
	t.Helper()
	l, fault := syntax.Read(strings.Join(lines, "\n"))
	if fault != (api.Fault{}) || len(l) != len(lines) && len(lines) > 0 && lines[len(lines)-1] != "" {
		t.Fatalf("Read of %q: %d statements, fault %v", lines, len(l), fault)
	}
	return l
}

// tell is a program as a failure tells it: its lines, or, of a statement that can't be written, what is wrong with it (it may be without an end).
func tell(l []api.Statement) string {
	out := fmt.Sprintf("%d statements:", len(l))
	for _, s := range l[:min(len(l), 12)] {
		line, err := syntax.Print(s)
		out += fmt.Sprintf(" %q", line[:min(len(line), 100)])
		if err != api.OK {
			out += fmt.Sprintf("(kind %d, label %q, error %d)", s.Kind, s.Label, err)
		}
	}
	return out
}

// wantFault also asks Reached: it tells the same, and nothing beside it (Z4).
func wantFault(t *testing.T, l []api.Statement, err api.Errno, at int) {
	t.Helper()
	want := api.Fault{Err: err, At: at}
	if got := check.Check(l); got != want {
		t.Errorf("Check of %s: fault %v; want %v", tell(l), got, want)
	}
	if reached, got := check.Reached(l); got != want || len(reached) > 0 {
		t.Errorf("Reached of %s: %v, fault %v; want nothing, fault %v", tell(l), reached, got, want)
	}
}

// wantGood: nothing is wrong with a program, and Reached tells something of each statement.
func wantGood(t *testing.T, l []api.Statement) {
	t.Helper()
	if got := check.Check(l); got != (api.Fault{}) {
		t.Errorf("Check of %s: fault %v; want none", tell(l), got)
	}
	if reached, got := check.Reached(l); got != (api.Fault{}) || len(reached) != len(l) {
		t.Errorf("Reached of %s: %v, fault %v; want %d of them, no fault", tell(l), reached, got, len(l))
	}
}

// bits are bools, one sign each.
func bits(l []bool) string {
	out := ""
	for _, b := range l {
		if b {
			out += "1"
		} else {
			out += "0"
		}
	}
	return out
}

// wantReached: what is come to is told by 1, all else by 0.
func wantReached(t *testing.T, l []api.Statement, want string) {
	t.Helper()
	if got := check.Check(l); got != (api.Fault{}) {
		t.Errorf("Check of %s: fault %v; want none", tell(l), got)
	}
	if got, fault := check.Reached(l); fault != (api.Fault{}) || bits(got) != want {
		t.Errorf("Reached of %s: %s, fault %v; want %s, no fault", tell(l), bits(got), fault, want)
	}
}

// letters are the names A, B, C and so on, so many of them.
func letters(n int) []string {
	var out []string
	for i := range n {
		out = append(out, string(rune('A'+i)))
	}
	return out
}

// join is lists, one behind the other, in memory of its own.
func join(l ...[]api.Statement) []api.Statement { return slices.Concat(l...) }

// endless is an expression of a kind that holds itself, in each of its kids.
func endless(kind, kids int) api.Expr {
	l := make([]api.Expr, kids)
	for i := range l {
		l[i] = api.Expr{Kind: kind, Name: "A", Kids: l}
	}
	return l[0]
}

// endlessPat is a pattern that holds itself.
func endlessPat() api.Pat {
	l := make([]api.Pat, 2)
	for i := range l {
		l[i] = api.Pat{Kind: api.PatCat, Kids: l}
	}
	return l[0]
}

// dice tells numbers that look mixed, the same ones each time.
type dice uint64

func (d *dice) below(n int) int {
	*d ^= *d << 13
	*d ^= *d >> 7
	*d ^= *d << 17
	return int(uint64(*d) >> 11 % uint64(n))
}
