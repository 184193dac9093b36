package library_test

import (
	"fmt"
	"iter"
	"slices"
	"testing"

	"scanfail/api"
	"scanfail/check"
	"scanfail/fold"
	"scanfail/library"
	"scanfail/machine"
	"scanfail/run"
	"scanfail/syntax"
)

// program is a program of the library, read and right.
func program(t *testing.T, name string) []api.Statement {
	t.Helper()
	text, err := library.Text(name)
	if err != api.OK {
		t.Fatalf("Text of %q: error %d", name, err)
	}
	l, fault := syntax.Read(text)
	if fault != (api.Fault{}) {
		t.Fatalf("%s: Read: fault %v", name, fault)
	}
	if fault := check.Check(l); fault != (api.Fault{}) {
		t.Fatalf("%s: Check: fault %v", name, fault)
	}
	return l
}

// runner is Run of chapter 12 or of chapter 14.
type runner func([]api.Statement, []string, int) (api.Ran, []int, api.Fault)

func ranBy(t *testing.T, by runner, l []api.Statement, input []string) api.Ran {
	t.Helper()
	ran, _, fault := by(l, input, api.MaxSteps)
	if fault != (api.Fault{}) {
		t.Fatalf("input %s: fault %v", brief(input), fault)
	}
	return ran
}

// ran is what came of a program with lines that come in. Its instructions and the quicker program tell the same; where the limit ended the run, the quicker one may have told more.
func ran(t *testing.T, name string, input []string) api.Ran {
	t.Helper()
	l := program(t, name)
	quick, fault := fold.Program(l)
	if fault != (api.Fault{}) {
		t.Fatalf("%s: Program: fault %v", name, fault)
	}
	want := ranBy(t, run.Run, l, input)
	if got := ranBy(t, machine.Run, l, input); !sameRan(got, want) || got.Steps != want.Steps {
		t.Errorf("%s, input %s: the machine tells %s; run tells %s", name, brief(input), brief(got.Output), brief(want.Output))
	}
	for _, by := range []runner{run.Run, machine.Run} {
		got := ranBy(t, by, quick, input)
		if want.How == api.RanLimit && len(got.Output) > len(want.Output) {
			got.Output = got.Output[:len(want.Output)]
		}
		if !slices.Equal(got.Output, want.Output) || want.How != api.RanLimit && (!sameRan(got, want) || got.Steps > want.Steps) {
			t.Errorf("%s, input %s: the quicker one tells %s; run tells %s", name, brief(input), brief(got.Output), brief(want.Output))
		}
	}
	return want
}

func sameRan(a, b api.Ran) bool {
	return a.How == b.How && slices.Equal(a.Output, b.Output) && slices.Equal(a.Vars, b.Vars) && slices.Equal(a.Items, b.Items)
}

// brief is lines as a failure tells them.
func brief(l []string) string {
	s := fmt.Sprintf("%q", l)
	if len(s) > 300 {
		s = s[:300] + ".."
	}
	return s
}

// question is a program of the library, with lines that come in.
type question struct {
	t    *testing.T
	name string
	in   []string
}

func ask(t *testing.T, name string, in ...string) question { return question{t, name, in} }

// tells: the run ends by itself, and just these lines are told.
func (q question) tells(want ...string) {
	q.t.Helper()
	r := ran(q.t, q.name, q.in)
	if r.How != api.RanEnd || !slices.Equal(r.Output, want) {
		q.t.Errorf("%s, input %s: tells %s, how %d; want %s", q.name, brief(q.in), brief(r.Output), r.How, brief(want))
	}
}

// tellsAsModel: what is told is what the model says; if the limit ended the run, what it says first. Whether the run ended by itself is told.
func (q question) tellsAsModel(m model) bool {
	q.t.Helper()
	r := ran(q.t, q.name, q.in)
	most := len(r.Output)
	if r.How == api.RanEnd {
		most++
	}
	want := beginning(m(q.in), most)
	if r.How == api.RanMuch || !slices.Equal(r.Output, want) {
		q.t.Errorf("%s, input %s: tells %s, how %d; the model: %s", q.name, brief(q.in), brief(r.Output), r.How, brief(want))
	}
	return r.How == api.RanEnd
}

// beginning is what comes first, most lines at most.
func beginning(l iter.Seq[string], most int) []string {
	var out []string
	if most == 0 {
		return nil
	}
	for s := range l {
		out = append(out, s)
		if len(out) == most {
			break
		}
	}
	return out
}

// dice tells numbers that look mixed, the same ones each time.
type dice uint64

func (d *dice) below(n int) int {
	*d ^= *d << 13
	*d ^= *d >> 7
	*d ^= *d << 17
	return int(uint64(*d) >> 11 % uint64(n))
}

// text is mixed of signs.
func (d *dice) text(signs string, most int) string {
	var out []byte
	for range d.below(most + 1) {
		out = append(out, signs[d.below(len(signs))])
	}
	return string(out)
}

func (d *dice) lines(signs string, wide, most int) []string {
	var out []string
	for range d.below(most + 1) {
		out = append(out, d.text(signs, wide))
	}
	return out
}
