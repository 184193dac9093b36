package auto_test

import (
	"fmt"
	"slices"
	"strings"
	"testing"

	"scanfail/api"
	"scanfail/auto"
	"scanfail/pats"
	"scanfail/sets"
)

// over is one byte longer than a text may be.
var over = strings.Repeat("a", api.MaxText+1)

// pat is the pattern that is written so.
func pat(s string) api.Pat {
	p, fault := pats.Read(s)
	if fault.Err != api.OK {
		panic(fmt.Sprintf("the test's pattern %q: fault %v", s, fault))
	}
	return p
}

func lit(s string) api.Pat { return api.Pat{Kind: api.PatLit, Text: s} }

func bare(kind int) api.Pat { return api.Pat{Kind: kind} }

func text(kind int, s string) api.Pat { return api.Pat{Kind: kind, Text: s} }

func number(kind, n int) api.Pat { return api.Pat{Kind: kind, N: n} }

func length(n int) api.Pat { return number(api.PatLen, n) }

func cat(kids ...api.Pat) api.Pat { return api.Pat{Kind: api.PatCat, Kids: kids} }

func alt(kids ...api.Pat) api.Pat { return api.Pat{Kind: api.PatAlt, Kids: kids} }

func arbno(kid api.Pat) api.Pat { return api.Pat{Kind: api.PatArbno, Kids: []api.Pat{kid}} }

func cond(kid api.Pat, name string) api.Pat {
	return api.Pat{Kind: api.PatCond, Name: name, Kids: []api.Pat{kid}}
}

func imm(kid api.Pat, name string) api.Pat {
	return api.Pat{Kind: api.PatImm, Name: name, Kids: []api.Pat{kid}}
}

func named(kind int, name string) api.Pat { return api.Pat{Kind: kind, Name: name} }

// endless is a pattern whose list of kids holds that list.
func endless(kind, kids int) api.Pat {
	p := api.Pat{Kind: kind, Name: "X", Kids: make([]api.Pat, kids)}
	for i := range p.Kids {
		p.Kids[i] = p
	}
	return p
}

// littered is p with something in all parts that its kinds do not name.
func littered(p api.Pat) api.Pat {
	out := api.Pat{Kind: p.Kind, Text: "litter", N: -7, Name: "no name"}
	switch p.Kind {
	case api.PatLit, api.PatAny, api.PatNotAny:
		out.Text = p.Text
	case api.PatLen:
		out.N = p.N
	}
	for _, kid := range p.Kids {
		out.Kids = append(out.Kids, littered(kid))
	}
	return out
}

// automaton is one whose classes are these sets; marks holds 1 for each state at which a text may end, 0 for the others.
func automaton(classes []string, marks string, next ...[]int) api.Auto {
	a := api.Auto{Next: next}
	found := 0
	for n, s := range classes {
		set, fault := sets.Read(s)
		if fault.Err != api.OK {
			panic(fmt.Sprintf("the test's set %q: fault %v", s, fault))
		}
		found += sets.Size(set)
		for b := range 256 {
			if sets.Has(set, byte(b)) {
				a.Class[b] = n
			}
		}
	}
	if found != 256 {
		panic(fmt.Sprintf("the test's classes %q hold %d bytes", classes, found))
	}
	for _, m := range marks {
		a.Ends = append(a.Ends, m == '1')
	}
	return a
}

// one is the class of all bytes.
var one = []string{"^"}

// nothing accepts no text, anything accepts them all.
var (
	nothing  = automaton(one, "0", []int{0})
	anything = automaton(one, "1", []int{0})
)

// ring has n states in a ring, through which all bytes lead, and accepts at one of them.
func ring(n, end int) api.Auto {
	a := api.Auto{Next: make([][]int, n), Ends: make([]bool, n)}
	for s := range n {
		a.Next[s] = []int{(s + 1) % n}
	}
	a.Ends[end] = true
	return a
}

// row is a list of as many of one number.
func row(n, number int) []int {
	return slices.Repeat([]int{number}, n)
}

// copyAuto is a in memory of its own.
func copyAuto(a api.Auto) api.Auto {
	next := make([][]int, len(a.Next))
	for s := range a.Next {
		next[s] = slices.Clone(a.Next[s])
	}
	a.Next, a.Ends = next, slices.Clone(a.Ends)
	return a
}

// sameAuto tells whether two automata are the same; lists without entries are.
func sameAuto(a, b api.Auto) bool {
	return a.Class == b.Class && slices.Equal(a.Ends, b.Ends) && slices.EqualFunc(a.Next, b.Next, slices.Equal[[]int])
}

// brief is a text as a failure tells it: thousands of states would help nobody.
func brief(s string) string {
	if len(s) > 600 {
		return s[:600] + ".."
	}
	return s
}

func tell(p api.Pat) string {
	if s, err := pats.Print(p); err == api.OK {
		return brief(s)
	}
	return brief(fmt.Sprintf("%+v", p))
}

func tellAuto(a api.Auto) string {
	var bytes []string
	for class := range 256 {
		var s []byte
		for b, c := range a.Class {
			if c == class {
				s = append(s, byte(b))
			}
		}
		if s != nil {
			bytes = append(bytes, fmt.Sprintf("%d: %s", class, sets.Print(sets.Of(string(s)))))
		}
	}
	return brief(fmt.Sprintf("{%s; %v; %v}", strings.Join(bytes, ", "), a.Next, a.Ends))
}

// wantAuto asks that just this came, the least one, whatever it is of.
func wantAuto(t *testing.T, what string, got api.Auto, err api.Errno, want api.Auto) {
	t.Helper()
	if err != api.OK || !sameAuto(got, want) {
		t.Errorf("%s: %s, error %d; want %s", what, tellAuto(got), err, tellAuto(want))
	}
}

// wantNoAuto also asks Z4: beside an error there are noughts.
func wantNoAuto(t *testing.T, what string, got api.Auto, err, want api.Errno) {
	t.Helper()
	if err != want || !sameAuto(got, api.Auto{}) {
		t.Errorf("%s: %s, error %d; want noughts, error %d", what, tellAuto(got), err, want)
	}
}

// wantMade also asks that what p's kinds do not name means nothing.
func wantMade(t *testing.T, p api.Pat, want api.Auto) {
	t.Helper()
	for _, q := range []api.Pat{p, littered(p)} {
		a, err := auto.Make(q)
		wantAuto(t, "Make of "+tell(q), a, err, want)
	}
	wantLeast(t, want)
}

func wantNotMade(t *testing.T, what string, p api.Pat, want api.Errno) {
	t.Helper()
	a, err := auto.Make(p)
	wantNoAuto(t, "Make of "+brief(what), a, err, want)
}

// made is the automaton of the pattern that is written so.
func made(s string) api.Auto {
	a, err := auto.Make(pat(s))
	if err != api.OK {
		panic(fmt.Sprintf("the test's automaton %q: error %d", s, err))
	}
	return a
}

func wantAccepts(t *testing.T, a api.Auto, s string, want bool) {
	t.Helper()
	if got, err := auto.Accepts(a, s); got != want || err != api.OK {
		t.Errorf("Accepts of %s and %q: %t, error %d; want %t", tellAuto(a), brief(s), got, err, want)
	}
}

func wantShortest(t *testing.T, a api.Auto, want string) {
	t.Helper()
	if got, err := auto.Shortest(a); got != want || err != api.OK {
		t.Errorf("Shortest of %s: %q, error %d; want %q", tellAuto(a), brief(got), err, brief(want))
	}
}

func wantNoShortest(t *testing.T, a api.Auto) {
	t.Helper()
	if got, err := auto.Shortest(a); got != "" || err != api.ErrNone {
		t.Errorf("Shortest of %s: %q, error %d; want \"\", error %d", tellAuto(a), brief(got), err, api.ErrNone)
	}
}

func wantCount(t *testing.T, a api.Auto, n, want int) {
	t.Helper()
	if got, err := auto.Count(a, n); got != want || err != api.OK {
		t.Errorf("Count of %s and %d: %d, error %d; want %d", tellAuto(a), n, got, err, want)
	}
}

// wantWrong asks all that are given an automaton: each tells what is wrong ahead of all else, and Z4, beside it noughts.
func wantWrong(t *testing.T, what string, a api.Auto, want api.Errno) {
	t.Helper()
	if err := auto.Wrong(a); err != want {
		t.Errorf("Wrong of %s: error %d; want %d", what, err, want)
	}
	for _, s := range []string{"", "a", over} {
		if ok, err := auto.Accepts(a, s); ok || err != want {
			t.Errorf("Accepts of %s: %t, error %d; want false, error %d", what, ok, err, want)
		}
	}
	if s, err := auto.Shortest(a); s != "" || err != want {
		t.Errorf("Shortest of %s: %q, error %d; want \"\", error %d", what, s, err, want)
	}
	for _, n := range []int{-1, 0, 7, 8} {
		if m, err := auto.Count(a, n); m != 0 || err != want {
			t.Errorf("Count of %s and %d: %d, error %d; want 0, error %d", what, n, m, err, want)
		}
	}
	b, err := auto.Not(a)
	wantNoAuto(t, "Not of "+what, b, err, want)
	for _, good := range []api.Auto{nothing, anything, ring(api.MaxStates, 0)} {
		b, err = auto.Both(a, good)
		wantNoAuto(t, "Both of "+what+" and a good one", b, err, want)
		b, err = auto.Both(good, a)
		wantNoAuto(t, "Both of a good one and "+what, b, err, want)
		b, err = auto.Either(a, good)
		wantNoAuto(t, "Either of "+what+" and a good one", b, err, want)
		b, err = auto.Either(good, a)
		wantNoAuto(t, "Either of a good one and "+what, b, err, want)
	}
}
