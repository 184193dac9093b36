package gram_test

import (
	"reflect"
	"strings"
	"testing"
	"unsafe"

	"scanfail/api"
	"scanfail/gram"
)

func TestZ1PatternsThatHoldThemselves(t *testing.T) {
	for _, p := range []api.Pat{endless(api.PatCat, 2), endless(api.PatAlt, 3), endless(api.PatArbno, 1), endless(api.PatCond, 1), endless(0, 3)} {
		wantNothing(t, "a pattern that holds itself", nil, p, api.ErrMuch)
		l := []api.Rule{rule("A", p)}
		wantNothing(t, "a rule that holds itself", l, call("A"), api.ErrMuch)
		wantNoLeft(t, "a rule that holds itself", l, api.ErrMuch)
	}
}

// The widest and the deepest patterns.
func TestZ1GreatestPatterns(t *testing.T) {
	var all []int
	for i := range api.MaxGram + 1 {
		all = append(all, i)
	}
	wide, both := cat(), alt()
	for range api.MaxNodes - 1 {
		wide.Kids = append(wide.Kids, call("A"))
		both.Kids = append(both.Kids, call("A"))
	}
	l := rules("A := 'a' | ''")
	wantEnds(t, l, wide, full, 0, all...)
	wantEnds(t, l, both, full, 9, 9, 10)
	l = append(l, rule("W", wide), rule("B", both), rule("N", alt(cat(call("N"), call("B")), call("B"))))
	wantEnds(t, l, pat("*W *B"), full, 2, all[2:]...)
	wantEnds(t, l, pat("*N"), full, 2, all[2:]...)
	deep := lit("a")
	for range api.MaxDepth - 1 {
		deep = arbno(deep)
	}
	wantEnds(t, nil, deep, full, 0, all...)
	wantEnds(t, nil, within(lit("a"), api.MaxDepth-1), "aab", 2, 2)
	anys := alt()
	for range 50 {
		anys.Kids = append(anys.Kids, text(api.PatNotAny, strings.Repeat("xyz", 20000)))
	}
	wantEnds(t, nil, arbno(anys), full, 0, all...)
}

// Rules as many as can be, each calling others, at each place.
func TestZ1ManyRules(t *testing.T) {
	l := many(api.MaxRules)
	for i := range l {
		p := alt(lit(""), lit("a"))
		for j := range 20 {
			p.Kids = append(p.Kids, cat(call(l[(i+j*j)%len(l)].Name), call(l[(i*3+j)%len(l)].Name)))
		}
		l[i].Pat = p
	}
	var all []int
	for i := range api.MaxGram + 1 {
		all = append(all, i)
	}
	wantEnds(t, l, call("R9"), full, 0, all...)
}

// copyOf is p in memory of its own, but for its texts, which nobody can change.
func copyOf(p api.Pat) api.Pat {
	if p.Kids == nil {
		return p
	}
	kids := make([]api.Pat, len(p.Kids))
	for i, kid := range p.Kids {
		kids[i] = copyOf(kid)
	}
	p.Kids = kids
	return p
}

// roomy is p with room behind each list of kids, and something wrong in it.
func roomy(p api.Pat) api.Pat {
	if p.Kids == nil {
		return p
	}
	kids := make([]api.Pat, len(p.Kids), len(p.Kids)+2)
	for i, kid := range p.Kids {
		kids[i] = roomy(kid)
	}
	room := kids[:len(p.Kids)+2]
	room[len(p.Kids)], room[len(p.Kids)+1] = bare(99), lit(over)
	p.Kids = kids
	return p
}

func hasItsRoom(p api.Pat) bool {
	ok := true
	each(p, func(node api.Pat) {
		if n := len(node.Kids); n > 0 {
			room := node.Kids[:n+2]
			ok = ok && room[n].Kind == 99 && room[n+1].Text == over
		}
	})
	return ok
}

// What is handed in is only read, and the room behind its lists is not looked at.
func TestZ2OnlyReads(t *testing.T) {
	small := callers()
	d := dice(29)
	for range 800 {
		p := roomy(mixed(&d, small, 4))
		l := make([]api.Rule, 0, 6)
		for _, r := range mixedRules(&d, small) {
			l = append(l, rule(r.Name, roomy(r.Pat)))
		}
		room := l[:len(l)+1]
		room[len(l)] = rule("a", bare(99))
		before := copyOf(p)
		var rulesBefore []api.Rule
		for _, r := range l {
			rulesBefore = append(rulesBefore, rule(r.Name, copyOf(r.Pat)))
		}
		wantReach(t, l, p, modelReach(l, p))
		wantLeft(t, l, modelLeft(l))
		wantAsModel(t, l, p, "ab(a)")
		ok := reflect.DeepEqual(p, before) && hasItsRoom(p) && room[len(l)].Name == "a" && room[len(l)].Pat.Kind == 99
		for i, r := range l {
			ok = ok && reflect.DeepEqual(r, rulesBefore[i]) && hasItsRoom(r.Pat)
		}
		if !ok {
			t.Fatalf("what was handed in has changed: %s became %s", told(rulesBefore, before), told(l, p))
		}
		if t.Failed() {
			return
		}
	}
}

// shares tells whether two texts lie, in part, in the same memory.
func shares(a, b string) bool {
	if a == "" || b == "" {
		return false
	}
	p, q := uintptr(unsafe.Pointer(unsafe.StringData(a))), uintptr(unsafe.Pointer(unsafe.StringData(b)))
	return p < q+uintptr(len(b)) && q < p+uintptr(len(a))
}

func TestZ2AnswersAreNewMemory(t *testing.T) {
	given := names("FIRST SECOND THIRD NOBODY")
	l := []api.Rule{rule(given[0], call(given[1])), rule(given[1], alt(call(given[0]), call(given[2]), call(given[3]))), rule(given[2], call(given[2]))}
	reach, _ := gram.Reach(l, call(given[0]))
	left, _ := gram.Left(l)
	if len(reach) != 4 || len(left) != 3 {
		t.Fatalf("Reach %q, Left %q", reach, left)
	}
	for _, name := range append(reach, left...) {
		for _, g := range given {
			if shares(name, g) {
				t.Errorf("%q lies in what was handed in", name)
			}
		}
	}
}

// Two answers share nothing, not even the room behind them.
func TestZ2ListsAreApart(t *testing.T) {
	l := rules("A := *B", "B := *A | *C | 'a' | ''", "C := *C")
	for range 2 {
		reach, _ := gram.Reach(l, pat("*A"))
		left, _ := gram.Left(l)
		ends, _ := gram.Ends(l, pat("*A *A"), "aab", 0)
		_, _, _ = append(reach, "X"), append(left, "X"), append(ends, 99)
		clear(reach)
		clear(left)
		clear(ends)
		wantReach(t, l, pat("*A"), names("A B C"))
		wantLeft(t, l, names("A B C"))
		wantEnds(t, l, pat("*A *A"), "aab", 0, 0, 1, 2)
	}
}

// nil and lists without entries are the same.
func TestZ3NilIsEmpty(t *testing.T) {
	for _, l := range [][]api.Rule{nil, {}} {
		for _, kids := range [][]api.Pat{nil, {}} {
			p := alt(api.Pat{Kind: api.PatLit, Text: "b", Kids: kids}, api.Pat{Kind: api.PatArb, Kids: kids})
			wantReach(t, l, p, nil)
			wantEnds(t, l, p, "ab", 1, 1, 2)
			wantNeither(t, "nobody", l, api.Pat{Kind: api.PatCall, Name: "A", Kids: kids}, api.ErrName)
			wantNothing(t, "PatCat of nothing", l, cat(kids...), api.ErrMany)
		}
		wantLeft(t, l, nil)
	}
}

// What a call answers does not hang on the calls ahead of it, nor on the order in which a map is gone through.
func TestZ1CallsDoNotKnowOfOneAnother(t *testing.T) {
	l := rules("E := *E '+' *T | *T", "T := *T 'x' *F | *F", "F := '(' *E ')' | 'a'")
	for range 50 {
		wantReach(t, l, pat("*F"), names("E F T"))
		wantLeft(t, l, names("E T"))
		wantEnds(t, l, pat("*E"), "a+axa", 0, 1, 3, 5)
		wantEnds(t, l, pat("*E"), "a+axa", 2, 3, 5)
		wantNoEnds(t, "nobody", l, pat("*G"), "a", 0, api.ErrName)
	}
}
