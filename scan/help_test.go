package scan_test

import (
	"fmt"
	"slices"
	"strings"
	"testing"

	"scanfail/api"
	"scanfail/pats"
	"scanfail/scan"
)

// full is as long as a subject may be, over is one byte longer.
var (
	full = strings.Repeat("a", api.MaxText)
	over = full + "a"
)

// much is fuel that none of the small inputs uses up.
const much = 10000

// pat is the pattern that is written so.
func pat(s string) api.Pat {
	p, fault := pats.Read(s)
	if fault.Err != api.OK {
		panic(fmt.Sprintf("the test's pattern %q: fault %v", s, fault))
	}
	return p
}

// rules are rules that are written so, one a text: A := 'a'.
func rules(l ...string) []api.Rule {
	var out []api.Rule
	for _, s := range l {
		name, p, _ := strings.Cut(s, " := ")
		out = append(out, api.Rule{Name: name, Pat: pat(p)})
	}
	return out
}

func lit(s string) api.Pat { return api.Pat{Kind: api.PatLit, Text: s} }

func bare(kind int) api.Pat { return api.Pat{Kind: kind} }

func text(kind int, s string) api.Pat { return api.Pat{Kind: kind, Text: s} }

func number(kind, n int) api.Pat { return api.Pat{Kind: kind, N: n} }

func cat(kids ...api.Pat) api.Pat { return api.Pat{Kind: api.PatCat, Kids: kids} }

func alt(kids ...api.Pat) api.Pat { return api.Pat{Kind: api.PatAlt, Kids: kids} }

func arbno(kid api.Pat) api.Pat { return api.Pat{Kind: api.PatArbno, Kids: []api.Pat{kid}} }

func cond(kid api.Pat, name string) api.Pat {
	return api.Pat{Kind: api.PatCond, Name: name, Kids: []api.Pat{kid}}
}

func imm(kid api.Pat, name string) api.Pat {
	return api.Pat{Kind: api.PatImm, Name: name, Kids: []api.Pat{kid}}
}

func cursor(name string) api.Pat { return api.Pat{Kind: api.PatCursor, Name: name} }

func call(name string) api.Pat { return api.Pat{Kind: api.PatCall, Name: name} }

// gifts are gifts that are written so: X=a Y=bc.
func gifts(s string) []api.Gift {
	var out []api.Gift
	for _, one := range strings.Fields(s) {
		name, text, _ := strings.Cut(one, "=")
		out = append(out, api.Gift{Name: name, Text: text})
	}
	return out
}

// brief is a text as a failure tells it: 64 KiB of it would help nobody.
func brief(s string) string {
	if len(s) > 300 {
		return s[:300] + ".."
	}
	return s
}

func tell(p api.Pat) string {
	if s, err := pats.Print(p); err == api.OK {
		return brief(s)
	}
	return brief(fmt.Sprintf("%+v", p))
}

func tellRules(l []api.Rule) string {
	var out []string
	for _, r := range l {
		out = append(out, r.Name+" := "+tell(r.Pat))
	}
	return brief(strings.Join(out, "; "))
}

func sameMatch(a, b api.Match) bool {
	return a.Found == b.Found && a.From == b.From && a.To == b.To && a.Ticks == b.Ticks && slices.Equal(a.Given, b.Given) && slices.Equal(a.Said, b.Said)
}

func sameWays(a, b []api.Way) bool {
	return slices.EqualFunc(a, b, func(x, y api.Way) bool { return x.To == y.To && slices.Equal(x.Given, y.Given) })
}

// question is what Match or Ways is asked.
type question struct {
	rules   []api.Rule
	p       api.Pat
	subject string
	fuel    int
}

func ask(p, subject string, l ...string) question {
	return question{rules(l...), pat(p), subject, much}
}

func (q question) String() string {
	return fmt.Sprintf("%s in %q (%d bytes), rules %s, fuel %d", tell(q.p), brief(q.subject), len(q.subject), tellRules(q.rules), q.fuel)
}

func wantMatch(t *testing.T, q question, anchored bool, want api.Match) {
	t.Helper()
	got, err := scan.Match(q.rules, q.p, q.subject, anchored, q.fuel)
	if err != api.OK || !sameMatch(got, want) {
		t.Errorf("Match, anchored %t, of %v: %s, error %d; want %s", anchored, q, brief(fmt.Sprintf("%+v", got)), err, brief(fmt.Sprintf("%+v", want)))
	}
}

// wantNoMatch also asks Z4: beside an error there are noughts.
func wantNoMatch(t *testing.T, q question, anchored bool, want api.Errno) {
	t.Helper()
	got, err := scan.Match(q.rules, q.p, q.subject, anchored, q.fuel)
	if err != want || !sameMatch(got, api.Match{}) {
		t.Errorf("Match, anchored %t, of %v: %s, error %d; want noughts, error %d", anchored, q, brief(fmt.Sprintf("%+v", got)), err, want)
	}
}

func wantWays(t *testing.T, q question, at, most int, want []api.Way, wantCut bool) {
	t.Helper()
	got, cut, err := scan.Ways(q.rules, q.p, q.subject, at, most, q.fuel)
	if err != api.OK || cut != wantCut || !sameWays(got, want) {
		t.Errorf("Ways at %d, most %d, of %v: %s, cut %t, error %d; want %s, cut %t", at, most, q, brief(fmt.Sprint(got)), cut, err, brief(fmt.Sprint(want)), wantCut)
	}
}

// wantNoWays also asks Z4: beside an error there are noughts.
func wantNoWays(t *testing.T, q question, at, most int, want api.Errno) {
	t.Helper()
	got, cut, err := scan.Ways(q.rules, q.p, q.subject, at, most, q.fuel)
	if err != want || cut || len(got) > 0 {
		t.Errorf("Ways at %d, most %d, of %v: %s, cut %t, error %d; want nothing, error %d", at, most, q, brief(fmt.Sprint(got)), cut, err, want)
	}
}

// wantEnds asks where the ways of a pattern at a place end, of which none gives anything.
func wantEnds(t *testing.T, q question, at int, want ...int) {
	t.Helper()
	var ways []api.Way
	for _, to := range want {
		ways = append(ways, api.Way{To: to})
	}
	wantWays(t, q, at, api.MaxWays, ways, false)
}

// wantTicks asks how often Match comes to a node: it takes just as much fuel.
func wantTicks(t *testing.T, q question, anchored bool, want int) {
	t.Helper()
	m, err := scan.Match(q.rules, q.p, q.subject, anchored, q.fuel)
	if err != api.OK || m.Ticks != want {
		t.Errorf("Match, anchored %t, of %v: %d comings, error %d; want %d", anchored, q, m.Ticks, err, want)
	}
	q.fuel = want
	wantMatch(t, q, anchored, m)
	q.fuel = want - 1
	wantNoMatch(t, q, anchored, wantError(want))
}

// wantError is the error of fuel that is one less than what it takes.
func wantError(takes int) api.Errno {
	if takes == 0 {
		return api.ErrRange
	}
	return api.ErrFuel
}
