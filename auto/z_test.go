package auto_test

import (
	"reflect"
	"testing"
	"unsafe"

	"scanfail/api"
	"scanfail/auto"
)

func TestZ1PatternsThatHoldThemselves(t *testing.T) {
	for _, p := range []api.Pat{endless(api.PatCat, 2), endless(api.PatAlt, 3), endless(api.PatArbno, 1), endless(api.PatCond, 1), endless(0, 3)} {
		wantNotMade(t, "a pattern that holds itself", p, api.ErrMuch)
	}
}

// The greatest automata, each byte of a class of its own, are done in no time worth telling.
func TestZ1GreatestAutomata(t *testing.T) {
	d := dice(23)
	a := api.Auto{Next: make([][]int, api.MaxStates), Ends: make([]bool, api.MaxStates)}
	for b := range a.Class {
		a.Class[b] = 255 - b
	}
	for s := range a.Next {
		for range 256 {
			a.Next[s] = append(a.Next[s], d.below(api.MaxStates))
		}
		a.Ends[s] = d.below(2) == 0
	}
	b, err := auto.Not(a)
	if err != api.OK || len(b.Next) != api.MaxStates || len(b.Next[0]) != 256 {
		t.Errorf("Not of a great one: %d states, error %d", len(b.Next), err)
		return
	}
	wantPair(t, "Not", a, a, b, func(x, y bool) bool { return !x })
	wantCount(t, a, 7, modelCount(a, 7))
	if s, ok := modelShortest(a); ok {
		wantShortest(t, a, s)
	}
}

// copyOf is p in memory of its own, but for its texts, which nobody can change.
func copyOf(p api.Pat) api.Pat {
	if p.Kids == nil {
		return p
	}
	kids := make([]api.Pat, len(p.Kids))
	for i, kid := range p.Kids {
		kids[i] = copyOf(kid)
	}
	p.Kids = kids
	return p
}

// roomy is p with room behind each list of kids, and something wrong in it.
func roomy(p api.Pat) api.Pat {
	if p.Kids == nil {
		return p
	}
	kids := make([]api.Pat, len(p.Kids), len(p.Kids)+2)
	for i, kid := range p.Kids {
		kids[i] = roomy(kid)
	}
	room := kids[:len(p.Kids)+2]
	room[len(p.Kids)], room[len(p.Kids)+1] = bare(99), lit(over)
	p.Kids = kids
	return p
}

func hasItsRoom(p api.Pat) bool {
	ok := true
	each(p, func(node api.Pat) {
		if n := len(node.Kids); n > 0 {
			room := node.Kids[:n+2]
			ok = ok && room[n].Kind == 99 && room[n+1].Text == over
		}
	})
	return ok
}

// roomyAuto is a with room behind each of its lists, and something wrong in it.
func roomyAuto(a api.Auto) api.Auto {
	n := len(a.Next)
	next, ends := make([][]int, n+1), make([]bool, n+1)
	copy(ends, a.Ends)
	for s, row := range a.Next {
		next[s] = append(append(make([]int, 0, len(row)+1), row...), -7)[:len(row)]
	}
	next[n], ends[n] = []int{-7}, true
	a.Next, a.Ends = next[:n], ends[:n]
	return a
}

func autoHasItsRoom(a api.Auto) bool {
	n := len(a.Next)
	ok := len(a.Next[:n+1][n]) == 1 && a.Next[:n+1][n][0] == -7 && a.Ends[:n+1][n]
	for _, row := range a.Next {
		ok = ok && row[:len(row)+1][len(row)] == -7
	}
	return ok
}

// What is handed in is only read, and the room behind its lists is not looked at.
func TestZ2OnlyReads(t *testing.T) {
	small := leaves()
	d := dice(29)
	for range 600 {
		p := roomy(littered(mixed(&d, small, 4)))
		before := copyOf(p)
		a, err := auto.Make(p)
		if placesOf(p) > api.MaxPlaces {
			wantNoAuto(t, "Make of "+tell(p), a, err, api.ErrMuch)
		} else {
			wantTakes(t, p, a)
		}
		if !reflect.DeepEqual(p, before) || !hasItsRoom(p) {
			t.Fatalf("what was handed in has changed: %s became %s", tell(before), tell(p))
		}
		x, y := roomyAuto(some(&d, 1+d.below(9), 1+d.below(4))), roomyAuto(some(&d, 1+d.below(9), 1+d.below(4)))
		xBefore, yBefore := copyAuto(x), copyAuto(y)
		wantAsModels(t, x)
		wantTogether(t, x, y)
		if !sameAuto(x, xBefore) || !sameAuto(y, yBefore) || !autoHasItsRoom(x) || !autoHasItsRoom(y) {
			t.Fatalf("what was handed in has changed: %s and %s became %s and %s", tellAuto(xBefore), tellAuto(yBefore), tellAuto(x), tellAuto(y))
		}
		if t.Failed() {
			return
		}
	}
}

// memory is where something lies, up to where.
type memory struct{ from, to uintptr }

func (m memory) meets(n memory) bool { return m.from < n.to && n.from < m.to }

func memoryOf[E any](l []E) memory {
	from := uintptr(unsafe.Pointer(unsafe.SliceData(l)))
	var e E
	return memory{from, from + uintptr(cap(l))*unsafe.Sizeof(e)}
}

// memories are where the lists of a lie, with the room behind them.
func memories(a api.Auto) []memory {
	out := []memory{memoryOf(a.Next), memoryOf(a.Ends)}
	for _, row := range a.Next {
		out = append(out, memoryOf(row))
	}
	return out
}

// Answers lie in memory of their own, each of their lists.
func TestZ2AnswersAreNewMemory(t *testing.T) {
	alone := func(what string, out api.Auto, given ...api.Auto) {
		t.Helper()
		var others []memory
		for _, g := range given {
			others = append(others, memories(g)...)
		}
		for _, m := range memories(out) {
			for _, n := range others {
				if m.meets(n) {
					t.Fatalf("%s: a list of the answer lies where another one does", what)
				}
			}
			others = append(others, m)
		}
	}
	d := dice(31)
	list := []api.Auto{nothing, anything, ring(2, 0), ring(64, 3), made("'abc'"), made("ARBNO('a' | 'bc') 'x'")}
	for range 100 {
		list = append(list, some(&d, 1+d.below(9), 1+d.below(4)))
	}
	for i, a := range list {
		b := list[(i+1)%len(list)]
		out, _ := auto.Not(a)
		alone("Not of "+tellAuto(a), out, a)
		out, _ = auto.Both(a, b)
		alone("Both of "+tellAuto(a)+" and "+tellAuto(b), out, a, b)
		out, _ = auto.Either(a, a)
		alone("Either of "+tellAuto(a)+" and itself", out, a)
	}
	for _, s := range []string{"'abc'", "ARB", "FAIL", "ARBNO('a' | 'bc') 'x'"} {
		one, two := made(s), made(s)
		alone("Make of "+s, one, two)
	}
}

// nil and lists without entries are the same.
func TestZ3NilIsEmpty(t *testing.T) {
	for _, kids := range [][]api.Pat{nil, {}} {
		wantMade(t, api.Pat{Kind: api.PatLit, Text: "a", Kids: kids}, justA)
		wantMade(t, api.Pat{Kind: api.PatFail, Kids: kids}, nothing)
		wantMade(t, arbno(api.Pat{Kind: api.PatArb, Kids: kids}), anything)
		wantNotMade(t, "PatCat of nothing", cat(kids...), api.ErrMany)
		wantNotMade(t, "PatArbno of nothing", api.Pat{Kind: api.PatArbno, Kids: kids}, api.ErrMany)
	}
	for _, next := range [][][]int{nil, {}} {
		for _, ends := range [][]bool{nil, {}} {
			wantWrong(t, "one without states", api.Auto{Next: next, Ends: ends}, api.ErrMany)
		}
	}
	wantWrong(t, "one without Next, nil and empty", api.Auto{Next: [][]int{nil, {}}, Ends: []bool{true, false}}, api.ErrRange)
}

// What a call answers does not hang on the calls ahead of it.
func TestZ1CallsDoNotKnowOfOneAnother(t *testing.T) {
	for range 3 {
		wantMade(t, lit("a"), justA)
		wantMade(t, pat("ARBNO(LEN(2))"), ring(2, 0))
		wantNotMade(t, "LEN(13)", length(13), api.ErrMuch)
		wantBoth(t, justA, single, justA)
		wantShortest(t, justA, "a")
		wantCount(t, justA, 1, 1)
	}
}
