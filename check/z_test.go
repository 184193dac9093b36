package check_test

import (
	"fmt"
	"reflect"
	"slices"
	"strings"
	"testing"

	"scanfail/api"
	"scanfail/check"
)

// What holds itself, wherever a statement has it.
func TestZ1WithoutAnEnd(t *testing.T) {
	for kind := api.ExText; kind <= api.ExRem; kind++ {
		for _, kids := range []int{1, 2, 8, 9} {
			x := endless(kind, kids)
			for _, s := range []api.Statement{eval(x), match(x), assign(name("X"), x), replace(name("X"), x), assign(x, number(1)), replace(x, number(1)), assign(x, x), eval(neg(x))} {
				wantFault(t, []api.Statement{empty(), s}, api.ErrMuch, 1)
				wantFault(t, []api.Statement{{}, s}, api.ErrKind, 0)
				wantFault(t, []api.Statement{labelled("END", empty()), always(empty(), "L"), s, s}, api.ErrMuch, 2)
			}
		}
	}
	for _, kind := range []int{api.StMatch, api.StReplace, api.StRule} {
		wantFault(t, []api.Statement{{Kind: kind, Name: "P", Target: name("X"), Value: number(1), Pat: endlessPat()}}, api.ErrMuch, 0)
	}
}

// The greatest programs, which call and are called as often as can be.
func TestZ1Greatest(t *testing.T) {
	wide := call("F1")
	for range 11 { // MaxNodes nodes with one around them, every other one a call
		wide = two(api.ExCat, wide, wide)
	}
	l := []api.Statement{define("F1", letters(8), nil, "L1")}
	for i := range api.MaxLines - 1 {
		l = append(l, labelled(fmt.Sprintf("L%d", i), replace(item("X", wide), neg(wide))))
	}
	wantReached(t, l, strings.Repeat("1", api.MaxLines))
	l[api.MaxLines-1].Value = call("F2")
	wantFault(t, l, api.ErrName, api.MaxLines-1)
}

// anyText is a name, or none.
func anyText(d *dice) string {
	return []string{"", "", "A", "F", "END", "SIZE", "INPUT", "a", "1", "\x00", strings.Repeat("A", 17), "RETURN"}[d.below(12)]
}

func anyExpr(d *dice, depth int) api.Expr {
	x := api.Expr{Kind: d.below(16) - 1, Text: anyText(d), N: int64(d.below(3) - 1), Name: anyText(d)}
	for range d.below(depth + 1) {
		x.Kids = append(x.Kids, anyExpr(d, depth-1))
	}
	return x
}

func anyStatement(d *dice) api.Statement {
	s := api.Statement{Label: anyText(d), Kind: d.below(10) - 1, Target: anyExpr(d, 3), Value: anyExpr(d, 3), Pat: api.Pat{Kind: d.below(26), Text: anyText(d), N: d.below(5) - 2, Name: anyText(d)}}
	s.Name, s.Entry, s.Always, s.Yes, s.Noes = anyText(d), anyText(d), anyText(d), anyText(d), anyText(d)
	for range d.below(4) {
		s.Params = append(s.Params, anyText(d))
		s.Locals = append(s.Locals, anyText(d))
	}
	return s
}

func TestZ1Anything(t *testing.T) {
	d := dice(71)
	for range 20000 {
		l := make([]api.Statement, d.below(6))
		for i := range l {
			if l[i] = empty(); d.below(3) > 0 {
				l[i] = anyStatement(&d)
			}
		}
		asModel(t, l)
		if t.Failed() {
			return
		}
	}
}

// The same is said each time, whatever else is asked, and by whom.
func TestZ1TheSameEachTime(t *testing.T) {
	d := dice(73)
	done := make(chan bool)
	for range 200 {
		l := mixedProgram(&d, 20)
		want := check.Check(l)
		reached, _ := check.Reached(l)
		for range 4 {
			go func() {
				fault := check.Check(l)
				again, f := check.Reached(l)
				done <- fault == want && f == want && slices.Equal(again, reached)
			}()
		}
		for range 4 {
			if !<-done {
				t.Errorf("another time something else is said of %s", tell(l))
			}
		}
	}
}

// roomyExpr is x in memory of its own, with room behind each list of kids, and something wrong in it.
func roomyExpr(x api.Expr) api.Expr {
	kids := make([]api.Expr, len(x.Kids), len(x.Kids)+2)
	for i, kid := range x.Kids {
		kids[i] = roomyExpr(kid)
	}
	room := kids[:len(x.Kids)+2]
	room[len(x.Kids)], room[len(x.Kids)+1] = api.Expr{Kind: 99}, call("NOBODY")
	x.Kids = kids
	return x
}

// roomyNames are names in memory of their own, with room behind them, and names in it that can't be had.
func roomyNames(l []string) []string {
	return append(append(make([]string, 0, len(l)+2), l...), "INPUT", "")[:len(l)]
}

// roomy is a program in memory of its own, with room behind each list.
func roomy(l []api.Statement) []api.Statement {
	out := make([]api.Statement, 0, len(l)+2)
	for _, s := range l {
		s.Params, s.Locals = roomyNames(s.Params), roomyNames(s.Locals)
		s.Target, s.Value = roomyExpr(s.Target), roomyExpr(s.Value)
		out = append(out, s)
	}
	return append(out, labelled("END", empty()), api.Statement{})[:len(l)]
}

// whole are the lists of a program, with the room behind them.
func whole(l []api.Statement) []any {
	out := []any{l[:cap(l)]}
	var kids func(x api.Expr)
	kids = func(x api.Expr) {
		out = append(out, x.Kids[:cap(x.Kids)])
		for _, kid := range x.Kids {
			kids(kid)
		}
	}
	for _, s := range l {
		out = append(out, s.Params[:cap(s.Params)], s.Locals[:cap(s.Locals)])
		kids(s.Target)
		kids(s.Value)
	}
	return out
}

// What is handed in is only read, and the room behind its lists is not looked at.
func TestZ2OnlyReads(t *testing.T) {
	d := dice(79)
	for range 1000 {
		l := mixedProgram(&d, 12)
		if modelCheck(l).Err == api.ErrMuch {
			continue // it can't be laid anew
		}
		a, b := roomy(l), roomy(l)
		asModel(t, a)
		if !reflect.DeepEqual(whole(a), whole(b)) {
			t.Fatalf("what was handed in has changed: %s", tell(l))
		}
		if t.Failed() {
			return
		}
	}
}

func TestZ2AnswersAreNewMemory(t *testing.T) {
	l := program(t, " X = 1", " :(END)", "L X = 2")
	a, _ := check.Reached(l)
	b, _ := check.Reached(l)
	clear(a[:cap(a)])
	if bits(b) != "110" {
		t.Errorf("what was done with one answer is seen in another one: %s", bits(b))
	}
	wantReached(t, l, "110")
}

// nil and a list without entries are the same.
func TestZ3NoEntries(t *testing.T) {
	full := func(s api.Statement) api.Statement {
		s.Params, s.Locals, s.Target.Kids, s.Value.Kids = append([]string{}, s.Params...), append([]string{}, s.Locals...), append([]api.Expr{}, s.Target.Kids...), append([]api.Expr{}, s.Value.Kids...)
		return s
	}
	l := program(t, " DEFINE F() L", " F()", " X = F()", "L :(RETURN)")
	for i, s := range l {
		l[i] = full(s)
	}
	wantReached(t, l, "1111")
	l[1].Value.Name = "SIZE"
	wantFault(t, l, api.ErrMany, 1)
	wantReached(t, []api.Statement{}, "")
	wantReached(t, nil, "")
}

// Beside no fault there is no place, and beside a fault nothing is told.
func TestZ4Faults(t *testing.T) {
	d := dice(83)
	for range 3000 {
		l := mixedProgram(&d, 10)
		fault := check.Check(l)
		reached, again := check.Reached(l)
		switch {
		case again != fault:
			t.Fatalf("Check and Reached of %s: %v and %v", tell(l), fault, again)
		case fault.Err == api.OK && (fault.At != 0 || len(reached) != len(l)):
			t.Fatalf("Reached of %s: %v, fault %v", tell(l), reached, fault)
		case fault.Err != api.OK && reached != nil:
			t.Fatalf("Reached of %s: %v beside fault %v", tell(l), reached, fault)
		case fault.At < 0 || fault.At > len(l):
			t.Fatalf("Check of %s: fault %v", tell(l), fault)
		}
	}
}
