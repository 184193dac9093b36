package run_test

import (
	"fmt"
	"slices"
	"strings"
	"testing"

	"scanfail/api"
	"scanfail/run"
	"scanfail/syntax"
)

// question is a program in words, with all that it is run with.
type question struct {
	lines []string
	input []string
	limit int
}

// ask is a program that may take as many steps as can be.
func ask(lines ...string) question { return question{lines: lines, limit: api.MaxSteps} }

// in is the question with lines that come in.
func (q question) in(lines ...string) question {
	q.input = lines
	return q
}

// within is the question with a limit.
func (q question) within(limit int) question {
	q.limit = limit
	return q
}

// program reads lines, which must be right one by one.
func program(t *testing.T, lines ...string) []api.Statement {
	t.Helper()
	l, fault := syntax.Read(strings.Join(lines, "\n"))
	if fault != (api.Fault{}) {
		t.Fatalf("Read of %q: fault %v", lines, fault)
	}
	return l
}

// brief is a text as it is told: of a long one how it begins and ends, and how long it is.
func brief(s string) string {
	if len(s) <= 60 {
		return fmt.Sprintf("%q", s)
	}
	return fmt.Sprintf("%q..%q:%d", s[:2], s[len(s)-2:], len(s))
}

// show is a run in one line: how it ended and within how many steps, how often it came to each statement, what it told, what variables and items have.
func show(r api.Ran, comings []int) string {
	how := map[int]string{api.RanEnd: "end", api.RanLimit: "limit", api.RanMuch: "much"}[r.How]
	var out []string
	for _, line := range r.Output {
		out = append(out, brief(line))
	}
	s := fmt.Sprintf("%s %d %v [%s]", how, r.Steps, comings, strings.Join(out, " "))
	for _, g := range r.Vars {
		s += " " + g.Name + "=" + brief(g.Text)
	}
	for _, i := range r.Items {
		s += " " + i.Name + "<" + brief(i.Key) + ">=" + brief(i.Text)
	}
	return s
}

// answer is what comes of a question in which nothing is wrong.
func answer(t *testing.T, q question) (api.Ran, []int) {
	t.Helper()
	ran, comings, fault := run.Run(program(t, q.lines...), q.input, q.limit)
	if fault != (api.Fault{}) {
		t.Errorf("Run of %q: fault %v", q.lines, fault)
	}
	return ran, comings
}

// wantRan holds all that comes of a question against how show tells it.
func wantRan(t *testing.T, q question, want string) {
	t.Helper()
	if got := show(answer(t, q)); got != want {
		t.Errorf("Run of %q, input %q, limit %d:\n%s; want\n%s", q.lines, q.input, q.limit, got, want)
	}
}

// wantTold: the run ends by itself, having told these lines.
func wantTold(t *testing.T, q question, want ...string) {
	t.Helper()
	ran, comings := answer(t, q)
	if ran.How != api.RanEnd || !slices.Equal(ran.Output, want) {
		t.Errorf("Run of %q, input %q:\n%s; want told %q", q.lines, q.input, show(ran, comings), want)
	}
}

// wantFault: beside a fault nothing is told (Z4).
func wantFault(t *testing.T, l []api.Statement, input []string, limit int, err api.Errno, at int) {
	t.Helper()
	ran, comings, fault := run.Run(l, input, limit)
	if want := (api.Fault{Err: err, At: at}); fault != want {
		t.Errorf("Run of %d statements, %d lines, limit %d: fault %v; want %v", len(l), len(input), limit, fault, want)
	}
	if ran.Output != nil || ran.How != 0 || ran.Steps != 0 || ran.Vars != nil || ran.Items != nil || comings != nil {
		t.Errorf("Run of %d statements, %d lines, limit %d: %s beside fault %v", len(l), len(input), limit, show(ran, comings), fault)
	}
}

// helpers are functions that are laid behind a program: T tells what it is given, and has that as result; NO tells no, and fails. They are to be come to by calls alone.
var helpers = []string{
	" DEFINE T(X) T",
	" DEFINE NO() NO",
	"T OUTPUT = 'T' & X",
	" T = X :(RETURN)",
	"NO OUTPUT = 'no' :(FRETURN)",
}

// helped is a program with the helpers behind it; behind its last line it ends.
func helped(lines ...string) question {
	return ask(slices.Concat(lines, []string{" :(END)"}, helpers)...)
}

// wantValue: an expression has this text. Lines may stand ahead of it.
func wantValue(t *testing.T, expr, want string, ahead ...string) {
	t.Helper()
	wantTold(t, helped(append(ahead, " OUTPUT = '[' & ("+expr+") & ']' :F(FAILED)", " OUTPUT = 'yes' :(END)", "FAILED OUTPUT = 'failed'")...), "["+want+"]", "yes")
}

// wantFails: an expression fails, and what stands around it.
func wantFails(t *testing.T, expr string, ahead ...string) {
	t.Helper()
	wantTold(t, helped(append(ahead, " OUTPUT = '[' & ("+expr+") & ']' :F(FAILED)", " OUTPUT = 'yes' :(END)", "FAILED OUTPUT = 'failed'")...), "failed")
}

// quoted are texts as a program has them, with commas between.
func quoted(l ...string) string {
	var out []string
	for _, s := range l {
		out = append(out, "'"+strings.ReplaceAll(s, "'", "''")+"'")
	}
	return strings.Join(out, ", ")
}

// times are lines, so many times.
func times(n int, lines ...string) []string { return slices.Repeat(lines, n) }

// dice tells numbers that look mixed, the same ones each time.
type dice uint64

func (d *dice) below(n int) int {
	*d ^= *d << 13
	*d ^= *d >> 7
	*d ^= *d << 17
	return int(uint64(*d) >> 11 % uint64(n))
}

// pick is one of these.
func pick[T any](d *dice, l ...T) T { return l[d.below(len(l))] }
