package machine_test

import (
	"fmt"
	"slices"
	"strings"
	"testing"

	"scanfail/api"
	"scanfail/machine"
	"scanfail/run"
	"scanfail/syntax"
)

// question is a program in words, with all that it is run with.
type question struct {
	lines []string
	input []string
	limit int
}

// ask is a program that may take as many steps as can be.
func ask(lines ...string) question { return question{lines: lines, limit: api.MaxSteps} }

// in is the question with lines that come in.
func (q question) in(lines ...string) question {
	q.input = lines
	return q
}

// within is the question with a limit.
func (q question) within(limit int) question {
	q.limit = limit
	return q
}

// program reads lines, which must be right one by one.
func program(t *testing.T, lines ...string) []api.Statement {
	t.Helper()
	l, fault := syntax.Read(strings.Join(lines, "\n"))
	if fault != (api.Fault{}) {
		t.Fatalf("Read of %q: fault %v", lines, fault)
	}
	return l
}

// brief is a text as it is told: of a long one how it begins and ends, and how long it is.
func brief(s string) string {
	if len(s) <= 60 {
		return fmt.Sprintf("%q", s)
	}
	return fmt.Sprintf("%q..%q:%d", s[:2], s[len(s)-2:], len(s))
}

// show is a run in one line: how it ended and within how many steps, how often it came to each statement, what it told, what variables and items have.
func show(r api.Ran, comings []int) string {
	how := map[int]string{api.RanEnd: "end", api.RanLimit: "limit", api.RanMuch: "much"}[r.How]
	var out []string
	for _, line := range r.Output {
		out = append(out, brief(line))
	}
	s := fmt.Sprintf("%s %d %v [%s]", how, r.Steps, comings, strings.Join(out, " "))
	for _, g := range r.Vars {
		s += " " + g.Name + "=" + brief(g.Text)
	}
	for _, i := range r.Items {
		s += " " + i.Name + "<" + brief(i.Key) + ">=" + brief(i.Text)
	}
	return s
}

// trail is a trace in one line: each statement, how many calls are open (if any are), and + if it succeeded.
func trail(l []api.Seen) string {
	var out []string
	for _, s := range l {
		one := fmt.Sprint(s.At)
		if s.Within != 0 {
			one += fmt.Sprint(".", s.Within)
		}
		if s.OK {
			one += "+"
		} else {
			one += "-"
		}
		out = append(out, one)
	}
	return strings.Join(out, " ")
}

// same tells whether two runs are.
func same(a, b api.Ran) bool {
	return a.How == b.How && a.Steps == b.Steps && slices.Equal(a.Output, b.Output) && slices.Equal(a.Vars, b.Vars) && slices.Equal(a.Items, b.Items)
}

// asRun: in all the same comes as of chapter 12's Run; that is told.
func asRun(t *testing.T, l []api.Statement, input []string, limit int) api.Ran {
	t.Helper()
	want, often, wrong := run.Run(l, input, limit)
	got, comings, fault := machine.Run(l, input, limit)
	if fault != wrong || !same(got, want) || !slices.Equal(comings, often) {
		t.Errorf("input %q, limit %d:\n%s, fault %v; chapter 12:\n%s, fault %v", input, limit, show(got, comings), fault, show(want, often), wrong)
	}
	return got
}

// asModel: the run and its trace are as the model's.
func asModel(t *testing.T, l []api.Statement, input []string, limit int) *model {
	t.Helper()
	m, want := modelRun(l, input, limit)
	got, comings, fault := machine.Run(l, input, limit)
	if fault != (api.Fault{}) || !same(got, want) || !slices.Equal(comings, m.comings) {
		t.Errorf("input %q, limit %d:\n%s, fault %v; the model:\n%s", input, limit, show(got, comings), fault, show(want, m.comings))
	}
	for _, most := range []int{api.MaxSeen, len(m.seen) / 2, 1} {
		seen, fault := machine.Trace(l, input, limit, most)
		if kept := m.seen[:min(most, len(m.seen))]; fault != (api.Fault{}) || !slices.Equal(seen, kept) {
			t.Errorf("input %q, limit %d, most %d:\n%s, fault %v; the model:\n%s", input, limit, most, trail(seen), fault, trail(kept))
		}
	}
	return m
}

// answerTo is what comes of a program in which nothing is wrong.
func answerTo(t *testing.T, l []api.Statement, input []string, limit int) (api.Ran, []int) {
	t.Helper()
	ran, comings, fault := machine.Run(l, input, limit)
	if fault != (api.Fault{}) {
		t.Errorf("Run, input %q, limit %d: fault %v", input, limit, fault)
	}
	return ran, comings
}

// traceOf is its trace, as long as it can be.
func traceOf(t *testing.T, l []api.Statement, input []string, limit int) []api.Seen {
	t.Helper()
	seen, fault := machine.Trace(l, input, limit, api.MaxSeen)
	if fault != (api.Fault{}) {
		t.Errorf("Trace, input %q, limit %d: fault %v", input, limit, fault)
	}
	return seen
}

// answer is what comes of a question in which nothing is wrong. It is the same as chapter 12 says, within each lesser limit, too, where those are not too many.
func answer(t *testing.T, q question) (api.Ran, []int) {
	t.Helper()
	l := program(t, q.lines...)
	ran, comings := answerTo(t, l, q.input, q.limit)
	asRun(t, l, q.input, q.limit)
	for limit := range min(ran.Steps, 100) + 2 {
		asRun(t, l, q.input, limit)
	}
	return ran, comings
}

// wantRan holds all that comes of a question against how show tells it.
func wantRan(t *testing.T, q question, want string) {
	t.Helper()
	if got := show(answer(t, q)); got != want {
		t.Errorf("Run of %q, input %q, limit %d:\n%s; want\n%s", q.lines, q.input, q.limit, got, want)
	}
}

// wantTold: the run ends by itself, having told these lines.
func wantTold(t *testing.T, q question, want ...string) {
	t.Helper()
	ran, comings := answer(t, q)
	if ran.How != api.RanEnd || !slices.Equal(ran.Output, want) {
		t.Errorf("Run of %q, input %q:\n%s; want told %q", q.lines, q.input, show(ran, comings), want)
	}
}

// wantTrail holds the trace of a question against how trail tells it; the model says the same, within each lesser limit, too, where those are not too many.
func wantTrail(t *testing.T, q question, most int, want string) {
	t.Helper()
	l := program(t, q.lines...)
	seen, fault := machine.Trace(l, q.input, q.limit, most)
	if got := trail(seen); fault != (api.Fault{}) || got != want {
		t.Errorf("Trace of %q, input %q, limit %d, most %d:\n%s, fault %v; want\n%s", q.lines, q.input, q.limit, most, got, fault, want)
	}
	m := asModel(t, l, q.input, q.limit)
	for limit := range min(m.steps, 60) {
		asModel(t, l, q.input, limit)
	}
}

// wantFault: beside a fault nothing is told (Z4), neither of a run nor of its trace.
func wantFault(t *testing.T, l []api.Statement, input []string, limit int, err api.Errno, at int) {
	t.Helper()
	want := api.Fault{Err: err, At: at}
	ran, comings, fault := machine.Run(l, input, limit)
	if fault != want {
		t.Errorf("Run of %d statements, %d lines, limit %d: fault %v; want %v", len(l), len(input), limit, fault, want)
	}
	if ran.Output != nil || ran.How != 0 || ran.Steps != 0 || ran.Vars != nil || ran.Items != nil || comings != nil {
		t.Errorf("Run of %d statements, %d lines, limit %d: %s beside fault %v", len(l), len(input), limit, show(ran, comings), fault)
	}
	for _, most := range []int{-1, 0, 5, api.MaxSeen, api.MaxSeen + 1} {
		if seen, fault := machine.Trace(l, input, limit, most); fault != want || seen != nil {
			t.Errorf("Trace of %d statements, %d lines, limit %d, most %d: %s, fault %v; want %v", len(l), len(input), limit, most, trail(seen), fault, want)
		}
	}
}

// helpers are functions that are laid behind a program: T tells what it is given, and has that as result; NO tells no, and fails. They are to be come to by calls alone.
var helpers = []string{
	" DEFINE T(X) T",
	" DEFINE NO() NO",
	"T OUTPUT = 'T' & X",
	" T = X :(RETURN)",
	"NO OUTPUT = 'no' :(FRETURN)",
}

// helped is a program with the helpers behind it; behind its last line it ends.
func helped(lines ...string) question {
	return ask(slices.Concat(lines, []string{" :(END)"}, helpers)...)
}

// quoted are texts as a program has them, with commas between.
func quoted(l ...string) string {
	var out []string
	for _, s := range l {
		out = append(out, "'"+strings.ReplaceAll(s, "'", "''")+"'")
	}
	return strings.Join(out, ", ")
}

// dice tells numbers that look mixed, the same ones each time.
type dice uint64

func (d *dice) below(n int) int {
	*d ^= *d << 13
	*d ^= *d >> 7
	*d ^= *d << 17
	return int(uint64(*d) >> 11 % uint64(n))
}

// pick is one of these.
func pick[T any](d *dice, l ...T) T { return l[d.below(len(l))] }
