package jobs_test

import (
	"fmt"
	"strings"
	"testing"

	"scanfail/api"
	"scanfail/jobs"
	"scanfail/library"
	"scanfail/run"
	"scanfail/syntax"
)

// job is a program, line by line, that may take as many steps as can be.
func job(lines ...string) api.Job {
	return api.Job{Text: strings.Join(lines, "\n") + "\n", Limit: api.MaxSteps}
}

// with is the job with lines that come in.
func with(j api.Job, input ...string) api.Job {
	j.Input = input
	return j
}

// within is the job with a limit.
func within(j api.Job, limit int) api.Job {
	j.Limit = limit
	return j
}

// ready is a program of the library.
func ready(t *testing.T, name string, input ...string) api.Job {
	t.Helper()
	text, err := library.Text(name)
	if err != api.OK {
		t.Fatalf("Text of %q: error %d", name, err)
	}
	return api.Job{Text: text, Input: input, Limit: api.MaxSteps}
}

// brief is a text as it is told: of a long one how it begins and ends, and how long it is.
func brief(s string) string {
	if len(s) <= 60 {
		return fmt.Sprintf("%q", s)
	}
	return fmt.Sprintf("%q..%q:%d", s[:2], s[len(s)-2:], len(s))
}

// show is what came of a job in one line: what was wrong, if something was; how it ended and within how many steps, what it told, what variables and items have. Beside a fault none of these stands.
func show(d api.Done) string {
	var out []string
	if d.Fault != (api.Fault{}) {
		out = append(out, fmt.Sprintf("fault %d at %d", d.Fault.Err, d.Fault.At))
	}
	if r := d.Ran; r.How != 0 || r.Steps != 0 || d.Fault == (api.Fault{}) {
		how := map[int]string{api.RanEnd: "end", api.RanLimit: "limit", api.RanMuch: "much"}[r.How]
		out = append(out, fmt.Sprintf("%s %d", how, r.Steps))
	}
	for _, line := range d.Ran.Output {
		out = append(out, brief(line))
	}
	for _, g := range d.Ran.Vars {
		out = append(out, g.Name+"="+brief(g.Text))
	}
	for _, i := range d.Ran.Items {
		out = append(out, i.Name+"<"+brief(i.Key)+">="+brief(i.Text))
	}
	return strings.Join(out, " ")
}

func showAll(l []api.Done) string {
	var out []string
	for _, d := range l {
		out = append(out, show(d))
	}
	return strings.Join(out, "\n")
}

// same tells whether the same came, to the byte.
func same(a, b api.Done) bool { return whole(a) == whole(b) }

// whole is all that came of a job.
func whole(d api.Done) string {
	return fmt.Sprintf("%v %d %d %q %q %q", d.Fault, d.Ran.How, d.Ran.Steps, d.Ran.Output, d.Ran.Vars, d.Ran.Items)
}

// model is what the document says of One: by chapters 10 and 12.
func model(j api.Job) api.Done {
	l, fault := syntax.Read(j.Text)
	if fault != (api.Fault{}) {
		return api.Done{Fault: fault}
	}
	ran, _, fault := run.Run(l, j.Input, j.Limit)
	return api.Done{Fault: fault, Ran: ran}
}

// wantOne holds what comes of a job against how show tells it.
func wantOne(t *testing.T, j api.Job, want string) {
	t.Helper()
	if got := show(jobs.One(j)); got != want {
		t.Errorf("One of %s, %d lines, limit %d:\n%s; want\n%s", brief(j.Text), len(j.Input), j.Limit, got, want)
	}
}

// wantWrong: this is told, and nothing beside it (Z4).
func wantWrong(t *testing.T, j api.Job, err api.Errno, at int) {
	t.Helper()
	if got, want := jobs.One(j), (api.Done{Fault: api.Fault{Err: err, At: at}}); !same(got, want) {
		t.Errorf("One of %s, %d lines, limit %d:\n%s; want fault %d at %d alone", brief(j.Text), len(j.Input), j.Limit, show(got), err, at)
	}
}

// asModel holds what comes of a job against the model, and answers it.
func asModel(t *testing.T, j api.Job) api.Done {
	t.Helper()
	got, want := jobs.One(j), model(j)
	if !same(got, want) {
		t.Errorf("One of %q, input %q, limit %d:\n%s; want\n%s", j.Text, j.Input, j.Limit, show(got), show(want))
	}
	return got
}

// all is what comes of jobs, with which nothing is wrong as a whole.
func all(t *testing.T, l []api.Job, workers int) []api.Done {
	t.Helper()
	got, err := jobs.All(l, workers)
	if err != api.OK || len(got) != len(l) {
		t.Fatalf("All of %d jobs by %d: %d results, error %d", len(l), workers, len(got), err)
	}
	return got
}

// wantAll holds what comes of jobs against what comes of each alone.
func wantAll(t *testing.T, l []api.Job, workers int) {
	t.Helper()
	got := all(t, l, workers)
	for i, j := range l {
		if want := jobs.One(j); !same(got[i], want) {
			t.Errorf("All of %d jobs by %d: at %d\n%s; want\n%s", len(l), workers, i, show(got[i]), show(want))
		}
	}
}

// wantNone: All answers this error, and nothing beside it.
func wantNone(t *testing.T, l []api.Job, workers int, err api.Errno) {
	t.Helper()
	if got, e := jobs.All(l, workers); e != err || got != nil {
		t.Errorf("All of %d jobs by %d: %d results, error %d; want none, error %d", len(l), workers, len(got), e, err)
	}
}

// dice tells numbers that look mixed, the same ones each time.
type dice uint64

func (d *dice) below(n int) int {
	*d ^= *d << 13
	*d ^= *d >> 7
	*d ^= *d << 17
	return int(uint64(*d) >> 11 % uint64(n))
}

// pick is one of these.
func pick[T any](d *dice, l ...T) T { return l[d.below(len(l))] }
