package scan_test

import (
	"reflect"
	"strings"
	"testing"
	"unsafe"

	"scanfail/api"
	"scanfail/scan"
)

// endless is a pattern whose list of kids holds that list.
func endless(kind, kids int) api.Pat {
	p := api.Pat{Kind: kind, Name: "X", Kids: make([]api.Pat, kids)}
	for i := range p.Kids {
		p.Kids[i] = p
	}
	return p
}

func TestZ1PatternsThatHoldThemselves(t *testing.T) {
	for _, p := range []api.Pat{endless(api.PatCat, 2), endless(api.PatAlt, 2), endless(api.PatArbno, 1), endless(api.PatCond, 1), endless(0, 3)} {
		wantNoMatch(t, question{nil, p, "a", much}, false, api.ErrMuch)
		wantNoWays(t, question{nil, p, "a", much}, 0, 1, api.ErrMuch)
		wantRules(t, "a pattern that holds itself", []api.Rule{rule("A", p)}, api.ErrMuch)
	}
}

// Greatest patterns and greatest rules, all of them called.
func TestZ1GreatestPatterns(t *testing.T) {
	wide := cat()
	for range api.MaxNodes - 1 {
		wide.Kids = append(wide.Kids, bare(api.PatRem))
	}
	deep := call("R63")
	for range api.MaxDepth - 1 {
		deep = cond(deep, "X")
	}
	l := many(api.MaxRules)
	for i := range l {
		l[i].Pat = wide
	}
	l[63].Pat = lit("a")
	all := cat()
	for _, r := range l {
		all.Kids = append(all.Kids, call(r.Name))
	}
	q := question{l, all, full, api.MaxFuel}
	wantNoMatch(t, q, true, api.ErrFuel) // it would take 63 times 4096 comings
	q.p = wide
	wantMatch(t, q, true, api.Match{Found: true, To: api.MaxText, Ticks: api.MaxNodes})
	q.p = deep
	given := strings.Repeat("X=a ", api.MaxDepth-1)
	wantMatch(t, q, true, api.Match{Found: true, To: 1, Given: gifts(given), Ticks: api.MaxDepth + 1})
}

// copyOf is p in memory of its own, but for its texts, which nobody can change.
func copyOf(p api.Pat) api.Pat {
	if p.Kids == nil {
		return p
	}
	kids := make([]api.Pat, len(p.Kids))
	for i, kid := range p.Kids {
		kids[i] = copyOf(kid)
	}
	p.Kids = kids
	return p
}

// What is handed in is only read, and the room behind its lists is not looked at.
func TestZ2OnlyReads(t *testing.T) {
	small := leaves()
	d := dice(3)
	for range 2000 {
		kids := []api.Pat{mixed(&d, small, 4), mixed(&d, small, 4), bare(api.PatAbort), bare(0)}
		l := []api.Rule{rule("A", mixed(&d, small, 3)), rule("P", mixed(&d, small, 3)), rule("NOBODY", lit("")), rule("a", bare(99))}
		p := api.Pat{Kind: api.PatCat, Kids: kids[:2]}
		before, spare := copyOf(p), kids[2:4]
		rulesBefore := []api.Rule{rule("A", copyOf(l[0].Pat)), rule("P", copyOf(l[1].Pat))}
		q := question{l[:2], p, "ab(a)", 300}
		wantAsModel(t, q, 1, 5)
		if !reflect.DeepEqual(p, before) || !reflect.DeepEqual(l[:2], rulesBefore) {
			t.Fatalf("what was handed in has changed: %v", question{rulesBefore, before, q.subject, q.fuel})
		}
		if spare[0].Kind != api.PatAbort || spare[1].Kind != 0 || l[2].Name != "NOBODY" || l[3].Name != "a" {
			t.Fatalf("the room behind what was handed in has changed: %v", q)
		}
		if t.Failed() {
			return
		}
	}
}

// shares tells whether two texts lie, in part, in the same memory.
func shares(a, b string) bool {
	if a == "" || b == "" {
		return false
	}
	p, q := uintptr(unsafe.Pointer(unsafe.StringData(a))), uintptr(unsafe.Pointer(unsafe.StringData(b)))
	return p < q+uintptr(len(b)) && q < p+uintptr(len(a))
}

func TestZ2AnswersAreNewMemory(t *testing.T) {
	subject := strings.Repeat("subject", 3)
	names := []string{"FIRST", "SECOND", "PLACE", "OF", "RULE"}
	l := []api.Rule{rule("R", cat(cond(number(api.PatLen, 2), names[3]), imm(lit("b"), names[4])))}
	p := cat(cond(number(api.PatLen, 1), names[0]), imm(number(api.PatLen, 1), names[1]), cursor(names[2]), alt(call("R"), bare(api.PatArb)))
	l[0].Pat.Kids[1].Kids[0].Kind = api.PatArb
	var answers []api.Gift
	m, _ := scan.Match(l, p, subject, false, much)
	answers = append(append(answers, m.Given...), m.Said...)
	ways, _, _ := scan.Ways(l, p, subject, 1, 9, much)
	for _, w := range ways {
		answers = append(answers, w.Given...)
	}
	if len(m.Given) != 2 || len(m.Said) != 3 || len(ways) != 9 {
		t.Fatalf("%d given, %d told, %d ways", len(m.Given), len(m.Said), len(ways))
	}
	for _, g := range answers {
		for _, given := range append(names, subject) {
			if shares(g.Name, given) || shares(g.Text, given) {
				t.Errorf("%v lies in what was handed in", g)
			}
		}
	}
}

// Lists of one answer, and of two, share nothing, not even the room behind them.
func TestZ2ListsAreApart(t *testing.T) {
	q := ask("LEN(1) . A $ B ARB . C $ D", "abcd")
	m, _ := scan.Match(q.rules, q.p, q.subject, true, q.fuel)
	said := append([]api.Gift{}, m.Said...)
	_ = append(m.Given, api.Gift{Name: "Z"}, api.Gift{Name: "Z"})
	m.Given[0].Name = "Z"
	if !reflect.DeepEqual(m.Said, said) {
		t.Errorf("what was given and what was told share memory: %v", m.Said)
	}
	ways, _, _ := scan.Ways(q.rules, q.p, q.subject, 0, 9, q.fuel)
	for i := range ways {
		_ = append(ways[i].Given, api.Gift{Name: "Z"}, api.Gift{Name: "Z"})
		want, _, _, _ := modelWays(q, 0, 9)
		if !sameWays(ways[i:], want[i:]) {
			t.Fatalf("what ways give shares memory: %v", ways[i:])
		}
		ways[i].Given[0].Name = "Z"
	}
}

// nil and lists without entries are the same.
func TestZ3NilIsEmpty(t *testing.T) {
	p := alt(api.Pat{Kind: api.PatLit, Text: "b", Kids: []api.Pat{}}, bare(api.PatArb))
	for _, l := range [][]api.Rule{nil, {}} {
		wantMatch(t, question{l, p, "ab", much}, false, api.Match{Found: true, Ticks: 3})
		wantWays(t, question{l, p, "ab", much}, 1, 9, ends(2, 1, 2), false)
	}
}

// What a call answers does not hang on the calls ahead of it.
func TestZ1CallsDoNotKnowOfOneAnother(t *testing.T) {
	q := ask("ARB . X *A $ Y 'b'", "aabab", "A := 'a' | 'aa'")
	first, _ := scan.Match(q.rules, q.p, q.subject, false, q.fuel)
	for range 3 {
		other := ask("FENCE ARB $ Z FAIL", "xyz")
		wantMatch(t, other, false, api.Match{Said: gifts("Z= Z=x Z=xy Z=xyz"), Ticks: 8})
		wantMatch(t, q, false, first)
	}
}
