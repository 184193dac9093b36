package gram_test

import (
	"fmt"
	"slices"
	"strings"
	"testing"

	"scanfail/api"
	"scanfail/gram"
	"scanfail/pats"
)

// long is as long as a text may be, over is one byte longer.
var (
	long = strings.Repeat("a", api.MaxText)
	over = long + "a"
)

// full is as long as a subject may be, more is one byte longer.
var (
	full = strings.Repeat("a", api.MaxGram)
	more = full + "a"
)

// pat is the pattern that is written so.
func pat(s string) api.Pat {
	p, fault := pats.Read(s)
	if fault.Err != api.OK {
		panic(fmt.Sprintf("the test's pattern %q: fault %v", s, fault))
	}
	return p
}

// rules are rules that are written so, one a text: A := 'a'.
func rules(l ...string) []api.Rule {
	var out []api.Rule
	for _, s := range l {
		name, p, _ := strings.Cut(s, " := ")
		out = append(out, rule(name, pat(p)))
	}
	return out
}

func rule(name string, p api.Pat) api.Rule { return api.Rule{Name: name, Pat: p} }

func lit(s string) api.Pat { return api.Pat{Kind: api.PatLit, Text: s} }

func bare(kind int) api.Pat { return api.Pat{Kind: kind} }

func text(kind int, s string) api.Pat { return api.Pat{Kind: kind, Text: s} }

func number(kind, n int) api.Pat { return api.Pat{Kind: kind, N: n} }

func cat(kids ...api.Pat) api.Pat { return api.Pat{Kind: api.PatCat, Kids: kids} }

func alt(kids ...api.Pat) api.Pat { return api.Pat{Kind: api.PatAlt, Kids: kids} }

func arbno(kid api.Pat) api.Pat { return api.Pat{Kind: api.PatArbno, Kids: []api.Pat{kid}} }

func cond(kid api.Pat, name string) api.Pat {
	return api.Pat{Kind: api.PatCond, Name: name, Kids: []api.Pat{kid}}
}

func imm(kid api.Pat, name string) api.Pat {
	return api.Pat{Kind: api.PatImm, Name: name, Kids: []api.Pat{kid}}
}

func cursor(name string) api.Pat { return api.Pat{Kind: api.PatCursor, Name: name} }

func call(name string) api.Pat { return api.Pat{Kind: api.PatCall, Name: name} }

// within is p so deep in others: PatCat, PatAlt, PatArbno, PatCond and PatImm in turn.
func within(p api.Pat, deep int) api.Pat {
	for i := range deep {
		switch i % 5 {
		case 0:
			p = cat(lit("a"), p)
		case 1:
			p = alt(lit("a"), p)
		case 2:
			p = arbno(p)
		case 3:
			p = cond(p, "X")
		case 4:
			p = imm(p, "Y")
		}
	}
	return p
}

// endless is a pattern whose list of kids holds that list.
func endless(kind, kids int) api.Pat {
	p := api.Pat{Kind: kind, Name: "X", Kids: make([]api.Pat, kids)}
	for i := range p.Kids {
		p.Kids[i] = p
	}
	return p
}

// littered is p with something in all parts that its kinds do not name.
func littered(p api.Pat) api.Pat {
	out := api.Pat{Kind: p.Kind, Text: "litter", N: -7, Name: "no name"}
	switch p.Kind {
	case api.PatLit, api.PatAny, api.PatNotAny, api.PatSpan, api.PatBreak, api.PatBreakX:
		out.Text = p.Text
	case api.PatLen, api.PatTab, api.PatRTab, api.PatPos, api.PatRPos:
		out.N = p.N
	case api.PatCond, api.PatImm, api.PatCursor, api.PatCall:
		out.Name = p.Name
	}
	for _, kid := range p.Kids {
		out.Kids = append(out.Kids, littered(kid))
	}
	return out
}

func litteredRules(l []api.Rule) []api.Rule {
	var out []api.Rule
	for _, r := range l {
		out = append(out, rule(r.Name, littered(r.Pat)))
	}
	return out
}

// brief is a text as a failure tells it: 64 KiB of it would help nobody.
func brief(s string) string {
	if len(s) > 400 {
		return s[:400] + ".."
	}
	return s
}

func tell(p api.Pat) string {
	if s, err := pats.Print(p); err == api.OK {
		return brief(s)
	}
	return brief(fmt.Sprintf("%+v", p))
}

func tellRules(l []api.Rule) string {
	var out []string
	for _, r := range l {
		out = append(out, r.Name+" := "+tell(r.Pat))
	}
	return brief(strings.Join(out, "; "))
}

func told(l []api.Rule, p api.Pat) string { return tell(p) + " with " + tellRules(l) }

// names are names with a blank between two.
func names(s string) []string { return strings.Fields(s) }

// wantReach also asks that what kinds do not name means nothing.
func wantReach(t *testing.T, l []api.Rule, p api.Pat, want []string) {
	t.Helper()
	got, err := gram.Reach(l, p)
	if err != api.OK || !slices.Equal(got, want) {
		t.Errorf("Reach of %s: %q, error %d; want %q", told(l, p), got, err, want)
	}
	got, err = gram.Reach(litteredRules(l), littered(p))
	if err != api.OK || !slices.Equal(got, want) {
		t.Errorf("Reach of %s, with something in parts that mean nothing: %q, error %d; want %q", told(l, p), got, err, want)
	}
}

// wantNoReach also asks Z4: beside an error there is nothing.
func wantNoReach(t *testing.T, what string, l []api.Rule, p api.Pat, want api.Errno) {
	t.Helper()
	if got, err := gram.Reach(l, p); err != want || len(got) > 0 {
		t.Errorf("Reach, %s: %q, error %d; want nothing, error %d", brief(what), got, err, want)
	}
}

// wantEnds also asks Member, of what begins at 0, and that what kinds do not name means nothing.
func wantEnds(t *testing.T, l []api.Rule, p api.Pat, subject string, at int, want ...int) {
	t.Helper()
	got, err := gram.Ends(l, p, subject, at)
	if err != api.OK || !slices.Equal(got, want) {
		t.Errorf("Ends of %s in %q at %d: %v, error %d; want %v", told(l, p), subject, at, got, err, want)
	}
	got, err = gram.Ends(litteredRules(l), littered(p), subject, at)
	if err != api.OK || !slices.Equal(got, want) {
		t.Errorf("Ends of %s in %q at %d, with something in parts that mean nothing: %v, error %d; want %v", told(l, p), subject, at, got, err, want)
	}
	if at == 0 {
		wantMember(t, l, p, subject, slices.Contains(want, len(subject)))
	}
}

// wantNoEnds also asks Z4: beside an error there is nothing.
func wantNoEnds(t *testing.T, what string, l []api.Rule, p api.Pat, subject string, at int, want api.Errno) {
	t.Helper()
	if got, err := gram.Ends(l, p, subject, at); err != want || len(got) > 0 {
		t.Errorf("Ends, %s, at %d of %d bytes: %v, error %d; want nothing, error %d", brief(what), at, len(subject), got, err, want)
	}
}

func wantMember(t *testing.T, l []api.Rule, p api.Pat, subject string, want bool) {
	t.Helper()
	if got, err := gram.Member(l, p, subject); err != api.OK || got != want {
		t.Errorf("Member of %s and %q: %t, error %d; want %t", told(l, p), subject, got, err, want)
	}
}

// wantNoMember also asks Z4: beside an error it is false.
func wantNoMember(t *testing.T, what string, l []api.Rule, p api.Pat, subject string, want api.Errno) {
	t.Helper()
	if got, err := gram.Member(l, p, subject); err != want || got {
		t.Errorf("Member, %s, of %d bytes: %t, error %d; want false, error %d", brief(what), len(subject), got, err, want)
	}
}

// wantNeither asks Ends, at places that are there and at such that are not, and Member.
func wantNeither(t *testing.T, what string, l []api.Rule, p api.Pat, want api.Errno) {
	t.Helper()
	for _, s := range []string{"", "ab", full, more, over} {
		for _, at := range []int{-1, 0, len(s), len(s) + 1} {
			wantNoEnds(t, what, l, p, s, at, want)
		}
		wantNoMember(t, what, l, p, s, want)
	}
}

// wantNothing asks Reach, too.
func wantNothing(t *testing.T, what string, l []api.Rule, p api.Pat, want api.Errno) {
	t.Helper()
	wantNoReach(t, what, l, p, want)
	wantNeither(t, what, l, p, want)
}

// wantLeft also asks that what kinds do not name means nothing.
func wantLeft(t *testing.T, l []api.Rule, want []string) {
	t.Helper()
	if got, err := gram.Left(l); err != api.OK || !slices.Equal(got, want) {
		t.Errorf("Left of %s: %q, error %d; want %q", tellRules(l), got, err, want)
	}
	if got, err := gram.Left(litteredRules(l)); err != api.OK || !slices.Equal(got, want) {
		t.Errorf("Left of %s, with something in parts that mean nothing: %q, error %d; want %q", tellRules(l), got, err, want)
	}
}

// wantNoLeft also asks Z4: beside an error there is nothing.
func wantNoLeft(t *testing.T, what string, l []api.Rule, want api.Errno) {
	t.Helper()
	if got, err := gram.Left(l); err != want || len(got) > 0 {
		t.Errorf("Left, %s: %q, error %d; want nothing, error %d", brief(what), got, err, want)
	}
}

// many are n rules with nothing wrong.
func many(n int) []api.Rule {
	var out []api.Rule
	for i := range n {
		out = append(out, rule(fmt.Sprintf("R%d", i), lit("a")))
	}
	return out
}

// flaw is something that is wrong, and how it is told.
type flaw[E any] struct {
	what string
	e    E
	err  api.Errno
}

// wrongPatterns have each error that a pattern can have.
func wrongPatterns() []flaw[api.Pat] {
	wide := cat()
	for range api.MaxNodes {
		wide.Kids = append(wide.Kids, call("A"))
	}
	return []flaw[api.Pat]{
		{"no kind", bare(0), api.ErrKind},
		{"a kind that is none, within", within(bare(25), 5), api.ErrKind},
		{"too deep", within(lit("a"), api.MaxDepth), api.ErrMuch},
		{"too many nodes", wide, api.ErrMuch},
		{"a text that is too long", lit(over), api.ErrMuch},
		{"no text", text(api.PatAny, ""), api.ErrFit},
		{"a number below 0", number(api.PatLen, -1), api.ErrRange},
		{"a name that is none", call("a"), api.ErrName},
		{"one kid of PatCat", cat(call("A")), api.ErrMany},
		{"no kid of PatArbno", bare(api.PatArbno), api.ErrMany},
	}
}

// wrongRules have each error that rules can have.
func wrongRules() []flaw[[]api.Rule] {
	out := []flaw[[]api.Rule]{
		{"too many rules", many(api.MaxRules + 1), api.ErrMany},
		{"a rule's name that is none", []api.Rule{rule("", lit("a"))}, api.ErrName},
		{"a rule's name twice", rules("A := 'a'", "B := 'b'", "A := 'a'"), api.ErrName},
		{"a name that is none ahead of a wrong pattern", []api.Rule{rule("a", bare(0))}, api.ErrName},
	}
	for _, w := range wrongPatterns() {
		out = append(out, flaw[[]api.Rule]{"a rule that nobody calls: " + w.what, append(many(3), rule("A", w.e)), w.err})
	}
	return out
}
