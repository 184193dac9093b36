package tune_test

import (
	"fmt"
	"strings"
	"testing"

	"scanfail/api"
	"scanfail/pats"
	"scanfail/sets"
	"scanfail/tune"
)

// full is as long as a text may be, over is one byte longer.
var (
	full = strings.Repeat("a", api.MaxText)
	over = full + "a"
)

// pat is the pattern that is written so.
func pat(s string) api.Pat {
	p, fault := pats.Read(s)
	if fault.Err != api.OK {
		panic(fmt.Sprintf("the test's pattern %q: fault %v", s, fault))
	}
	return p
}

// set is the set that is written so.
func set(s string) api.Set {
	out, fault := sets.Read(s)
	if fault.Err != api.OK {
		panic(fmt.Sprintf("the test's set %q: fault %v", s, fault))
	}
	return out
}

func lit(s string) api.Pat { return api.Pat{Kind: api.PatLit, Text: s} }

func bare(kind int) api.Pat { return api.Pat{Kind: kind} }

func text(kind int, s string) api.Pat { return api.Pat{Kind: kind, Text: s} }

func number(kind, n int) api.Pat { return api.Pat{Kind: kind, N: n} }

func length(n int) api.Pat { return number(api.PatLen, n) }

func cat(kids ...api.Pat) api.Pat { return api.Pat{Kind: api.PatCat, Kids: kids} }

func alt(kids ...api.Pat) api.Pat { return api.Pat{Kind: api.PatAlt, Kids: kids} }

func arbno(kid api.Pat) api.Pat { return api.Pat{Kind: api.PatArbno, Kids: []api.Pat{kid}} }

func cond(kid api.Pat, name string) api.Pat {
	return api.Pat{Kind: api.PatCond, Name: name, Kids: []api.Pat{kid}}
}

func imm(kid api.Pat, name string) api.Pat {
	return api.Pat{Kind: api.PatImm, Name: name, Kids: []api.Pat{kid}}
}

func cursor(name string) api.Pat { return api.Pat{Kind: api.PatCursor, Name: name} }

// endless is a pattern whose list of kids holds that list.
func endless(kind, kids int) api.Pat {
	p := api.Pat{Kind: kind, Name: "X", Kids: make([]api.Pat, kids)}
	for i := range p.Kids {
		p.Kids[i] = p
	}
	return p
}

// same tells whether two patterns are the same; lists without entries are.
func same(a, b api.Pat) bool {
	if a.Kind != b.Kind || a.Text != b.Text || a.N != b.N || a.Name != b.Name || len(a.Kids) != len(b.Kids) {
		return false
	}
	for i := range a.Kids {
		if !same(a.Kids[i], b.Kids[i]) {
			return false
		}
	}
	return true
}

// littered is p with something in all parts that its kinds do not name.
func littered(p api.Pat) api.Pat {
	out := api.Pat{Kind: p.Kind, Text: "litter", N: -7, Name: "no name"}
	switch p.Kind {
	case api.PatLit, api.PatAny, api.PatNotAny, api.PatSpan, api.PatBreak, api.PatBreakX:
		out.Text = p.Text
	case api.PatLen, api.PatTab, api.PatRTab, api.PatPos, api.PatRPos:
		out.N = p.N
	case api.PatCond, api.PatImm, api.PatCursor, api.PatCall:
		out.Name = p.Name
	}
	for _, kid := range p.Kids {
		out.Kids = append(out.Kids, littered(kid))
	}
	return out
}

// brief is a text as a failure tells it: 64 KiB of it would help nobody.
func brief(s string) string {
	if len(s) > 300 {
		return s[:300] + ".."
	}
	return s
}

func tell(p api.Pat) string {
	if s, err := pats.Print(p); err == api.OK {
		return brief(s)
	}
	return brief(fmt.Sprintf("%+v", p))
}

// wantSimple also asks that what is simple stays so, that nothing is wrong with it, and that what p's kinds do not name means nothing.
func wantSimple(t *testing.T, p, want api.Pat) {
	t.Helper()
	for _, q := range []api.Pat{p, littered(p)} {
		got, err := tune.Simplify(q)
		if err != api.OK || !same(got, want) {
			t.Errorf("Simplify of %s: %s, error %d; want %s", tell(q), tell(got), err, tell(want))
			return
		}
	}
	if again, err := tune.Simplify(want); err != api.OK || !same(again, want) {
		t.Errorf("Simplify of %s, which is simple: %s, error %d", tell(want), tell(again), err)
	}
	if err := pats.Wrong(want); err != api.OK {
		t.Errorf("Simplify of %s: error %d is wrong with what comes", tell(p), err)
	}
}

func wantLength(t *testing.T, p api.Pat, least, most int) {
	t.Helper()
	for _, q := range []api.Pat{p, littered(p)} {
		if l, m, err := tune.Length(q); l != least || m != most || err != api.OK {
			t.Errorf("Length of %s: %d, %d, error %d; want %d, %d", tell(q), l, m, err, least, most)
		}
	}
}

// wantNever also asks Z4: beside an error there are noughts.
func wantNever(t *testing.T, p api.Pat) {
	t.Helper()
	for _, q := range []api.Pat{p, littered(p)} {
		if l, m, err := tune.Length(q); l != 0 || m != 0 || err != api.ErrNone {
			t.Errorf("Length of %s: %d, %d, error %d; want noughts, error %d", tell(q), l, m, err, api.ErrNone)
		}
	}
}

func wantFirst(t *testing.T, p api.Pat, want api.Set, wantNull bool) {
	t.Helper()
	for _, q := range []api.Pat{p, littered(p)} {
		if s, null, err := tune.First(q); s != want || null != wantNull || err != api.OK {
			t.Errorf("First of %s: %s, %t, error %d; want %s, %t", tell(q), sets.Print(s), null, err, sets.Print(want), wantNull)
		}
	}
}

// wantWrong asks all three, and Z4: beside an error there are noughts.
func wantWrong(t *testing.T, what string, p api.Pat, want api.Errno) {
	t.Helper()
	if q, err := tune.Simplify(p); err != want || !same(q, api.Pat{}) {
		t.Errorf("Simplify of %s: %s, error %d; want noughts, error %d", what, tell(q), err, want)
	}
	if least, most, err := tune.Length(p); err != want || least != 0 || most != 0 {
		t.Errorf("Length of %s: %d, %d, error %d; want noughts, error %d", what, least, most, err, want)
	}
	if s, null, err := tune.First(p); err != want || s != (api.Set{}) || null {
		t.Errorf("First of %s: %s, %t, error %d; want noughts, error %d", what, sets.Print(s), null, err, want)
	}
}
