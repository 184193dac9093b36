package code_test

import (
	"reflect"
	"slices"
	"strings"
	"testing"
	"unsafe"

	"scanfail/api"
	"scanfail/check"
	"scanfail/code"
)

func anyText(d *dice) string {
	return pick(d, "", "", "A", "F", "END", "SIZE", "INPUT", "a", "1", "\x00", strings.Repeat("A", 17), "RETURN", "B", "A", "B")
}

func anyExpr(d *dice, depth int) api.Expr {
	x := api.Expr{Kind: d.below(16) - 1, Text: anyText(d), N: int64(d.below(4) - 1), Name: anyText(d)}
	for range d.below(depth + 1) {
		x.Kids = append(x.Kids, anyExpr(d, depth-1))
	}
	return x
}

func anyStatement(d *dice) api.Statement {
	s := api.Statement{Label: pick(d, "", anyText(d)), Kind: d.below(10) - 1, Target: anyExpr(d, 1), Value: anyExpr(d, 2), Pat: api.Pat{Kind: d.below(26), Text: anyText(d), N: d.below(5) - 1, Name: anyText(d)}}
	s.Name, s.Entry = anyText(d), pick(d, "A", "B", anyText(d))
	if d.below(2) == 0 {
		s.Always, s.Yes, s.Noes = pick(d, "", anyText(d)), pick(d, "", anyText(d)), pick(d, "", anyText(d))
	}
	for range d.below(3) {
		s.Params = append(s.Params, anyText(d))
		s.Locals = append(s.Locals, anyText(d))
	}
	return s
}

// anyProgram is mostly wrong.
func anyProgram(d *dice) []api.Statement {
	l := make([]api.Statement, d.below(4))
	for i := range l {
		l[i] = anyStatement(d)
	}
	return l
}

// Whatever it is given, no call panics, and each one ends.
func TestZ1Anything(t *testing.T) {
	d := dice(71)
	for range 40000 {
		l := anyProgram(&d)
		if fault := check.Check(l); fault.Err != api.OK {
			wantFault(t, l, fault.Err, fault.At)
		} else {
			asModel(t, l)
		}
		if t.Failed() {
			return
		}
	}
}

// Expressions and patterns that hold themselves.
func TestZ1WithoutAnEnd(t *testing.T) {
	for kind := api.ExText; kind <= api.ExRem; kind++ {
		l := make([]api.Expr, 2)
		for i := range l {
			l[i] = api.Expr{Kind: kind, Name: "X", Kids: l}
		}
		for _, s := range []api.Statement{{Kind: api.StEval, Value: l[0]}, {Kind: api.StMatch, Value: l[0]}, {Kind: api.StAssign, Target: l[0]}, {Kind: api.StReplace, Target: l[0], Value: l[0]}} {
			wantFault(t, []api.Statement{{Kind: api.StEmpty}, s}, api.ErrMuch, 1)
		}
	}
	l := make([]api.Pat, 2)
	for i := range l {
		l[i] = api.Pat{Kind: api.PatAlt, Kids: l}
	}
	for _, kind := range []int{api.StMatch, api.StReplace, api.StRule} {
		wantFault(t, []api.Statement{{Kind: kind, Name: "P", Target: api.Expr{Kind: api.ExName, Name: "X"}, Value: api.Expr{Kind: api.ExNumber}, Pat: l[0]}}, api.ErrMuch, 0)
	}
}

// The same comes each time, whatever else is made, and by whom.
func TestZ1TheSameEachTime(t *testing.T) {
	d := dice(73)
	done := make(chan string)
	for range 100 {
		l := mixed{&d, []string{"L", "M"}}.program()
		want, _, _ := code.Make(l)
		for range 4 {
			go func() {
				got, _, _ := code.Make(l)
				done <- show(got)
			}()
		}
		for range 4 {
			if got := <-done; got != show(want) {
				t.Errorf("another time comes%s; want%s", got, show(want))
			}
		}
	}
}

// roomyExpr is x in memory of its own, with room behind each list of kids, and something wrong in it.
func roomyExpr(x api.Expr) api.Expr {
	kids := make([]api.Expr, 0, len(x.Kids)+1)
	for _, kid := range x.Kids {
		kids = append(kids, roomyExpr(kid))
	}
	x.Kids = append(kids, api.Expr{Kind: 99})[:len(x.Kids)]
	return x
}

func roomyTexts(l []string) []string {
	return append(append(make([]string, 0, len(l)+1), l...), "INPUT")[:len(l)]
}

// roomy is a program in memory of its own, with room behind each list.
func roomy(l []api.Statement) []api.Statement {
	out := make([]api.Statement, 0, len(l)+1)
	for _, s := range l {
		s.Params, s.Locals = roomyTexts(s.Params), roomyTexts(s.Locals)
		s.Target, s.Value = roomyExpr(s.Target), roomyExpr(s.Value)
		out = append(out, s)
	}
	return append(out, api.Statement{Label: "END"})[:len(l)]
}

// whole are all lists of a program, with the room behind them.
func whole(l []api.Statement) []any {
	out := []any{l[:cap(l)]}
	var kids func(x api.Expr)
	kids = func(x api.Expr) {
		out = append(out, x.Kids[:cap(x.Kids)])
		for _, kid := range x.Kids {
			kids(kid)
		}
	}
	for _, s := range l {
		out = append(out, s.Params[:cap(s.Params)], s.Locals[:cap(s.Locals)])
		kids(s.Target)
		kids(s.Value)
	}
	return out
}

// What is handed in is only read, and the room behind its lists is not looked at.
func TestZ2OnlyReads(t *testing.T) {
	d := dice(79)
	for range 1000 {
		l := mixed{&d, []string{"L", "M"}}.program()
		a, b := roomy(l), roomy(l)
		asModel(t, a)
		if !reflect.DeepEqual(whole(a), whole(b)) {
			t.Fatalf("what was handed in has changed")
		}
		if t.Failed() {
			return
		}
	}
}

// shared tells whether two texts lie in the same memory.
func shared(a, b string) bool {
	if a == "" || b == "" {
		return false
	}
	from, to := uintptr(unsafe.Pointer(unsafe.StringData(a))), uintptr(unsafe.Pointer(unsafe.StringData(b)))
	return from < to+uintptr(len(b)) && to < from+uintptr(len(a))
}

// argumentTexts are all texts of expressions that are handed in.
func argumentTexts(l []api.Statement) []string {
	var out []string
	var expr func(x api.Expr)
	expr = func(x api.Expr) {
		out = append(out, x.Text, x.Name)
		for _, kid := range x.Kids {
			expr(kid)
		}
	}
	for _, s := range l {
		out = append(out, s.Name, s.Label)
		expr(s.Target)
		expr(s.Value)
	}
	return out
}

// No text of an answer lies in what was handed in.
func TestZ2AnswersAreNewMemory(t *testing.T) {
	l := program(t, "L DEFINE FUNCTION(A) L", " VARIABLE = 'a text of the program' & NAME", " TABLE<'a key of the program'> = OTHER<KEY>", " $INDIRECT = SIZE(WHAT)", " FUNCTION(ARGUMENT)", " PLACE ? ['a'] = BETWEEN", " SUBJECT ? ['a']")
	out, _, fault := code.Make(l)
	if fault != (api.Fault{}) {
		t.Fatalf("fault %v", fault)
	}
	texts := 0
	for _, i := range out {
		if i.Text != "" {
			texts++
		}
		for _, x := range argumentTexts(l) {
			if shared(i.Text, x) {
				t.Errorf("%q of the answer lies in %q, which was handed in", i.Text, x)
			}
		}
	}
	if texts != 15 {
		t.Errorf("%d texts were answered:%s", texts, show(out))
	}
}

// Whoever changes what was handed in, or what was answered, changes nothing else.
func TestZ2NothingIsKept(t *testing.T) {
	l := program(t, "L X = 'a' & -1 :S(L)", " T<1> = 'b'")
	out, starts, _ := code.Make(l)
	again, twice, _ := code.Make(l)
	want, at := slices.Clone(out), slices.Clone(starts)
	clear(l[0].Value.Kids)
	clear(l[:cap(l)])
	clear(again[:cap(again)])
	clear(twice[:cap(twice)])
	if !slices.Equal(out, want) || !slices.Equal(starts, at) {
		t.Errorf("what was done elsewhere is seen in an answer:%s; want%s", show(out), show(want))
	}
}

// nil and a list without entries are the same.
func TestZ3NoEntries(t *testing.T) {
	l := program(t, "L DEFINE F() L", " X = F() & Y")
	full := slices.Clone(l)
	for i, s := range full {
		s.Params, s.Locals, s.Target.Kids, s.Value.Kids, s.Pat.Kids = append([]string{}, s.Params...), append([]string{}, s.Locals...), append([]api.Expr{}, s.Target.Kids...), append([]api.Expr{}, s.Value.Kids...), append([]api.Pat{}, s.Pat.Kids...)
		full[i] = s
	}
	for _, p := range [][]api.Statement{l, full} {
		wantMade(t, p, []int{0, 2}, step(0, 1), jump(2), step(1, 8), variable("X"), call("F", 0), read("Y"), two(api.ExCat), write(), jump(9), end())
	}
}
