package machine_test

import (
	"math"
	"reflect"
	"slices"
	"strings"
	"testing"
	"unsafe"

	"scanfail/api"
	"scanfail/check"
	"scanfail/machine"
)

// Expressions and patterns that hold themselves.
func TestZ1WithoutAnEnd(t *testing.T) {
	for kind := api.ExText; kind <= api.ExRem; kind++ {
		l := make([]api.Expr, 2)
		for i := range l {
			l[i] = api.Expr{Kind: kind, Name: "X", Kids: l}
		}
		for _, s := range []api.Statement{{Kind: api.StEval, Value: l[0]}, {Kind: api.StMatch, Value: l[0]}, {Kind: api.StAssign, Target: l[0]}, {Kind: api.StReplace, Target: l[0], Value: l[0]}} {
			wantFault(t, []api.Statement{{Kind: api.StEmpty}, s}, nil, 9, api.ErrMuch, 1)
		}
	}
	l := make([]api.Pat, 2)
	for i := range l {
		l[i] = api.Pat{Kind: api.PatAlt, Kids: l}
	}
	for _, kind := range []int{api.StMatch, api.StReplace, api.StRule} {
		wantFault(t, []api.Statement{{Kind: kind, Name: "P", Target: api.Expr{Kind: api.ExName, Name: "X"}, Value: api.Expr{Kind: api.ExNumber}, Pat: l[0]}}, nil, 9, api.ErrMuch, 0)
	}
}

func anyText(d *dice) string {
	return pick(d, "", "", "A", "F", "END", "SIZE", "INPUT", "a", "1", "\x00", strings.Repeat("A", 17), "RETURN", "B", "A", "B")
}

func anyExpr(d *dice, depth int) api.Expr {
	x := api.Expr{Kind: d.below(16) - 1, Text: anyText(d), N: int64(d.below(4) - 1), Name: anyText(d)}
	for range d.below(depth + 1) {
		x.Kids = append(x.Kids, anyExpr(d, depth-1))
	}
	return x
}

func anyStatement(d *dice) api.Statement {
	s := api.Statement{Label: pick(d, "", anyText(d)), Kind: d.below(10) - 1, Target: anyExpr(d, 1), Value: anyExpr(d, 2), Pat: api.Pat{Kind: d.below(26), Text: anyText(d), N: d.below(5) - 1, Name: anyText(d)}}
	s.Name, s.Entry = anyText(d), pick(d, "A", "B", anyText(d))
	if d.below(2) == 0 {
		s.Always, s.Yes, s.Noes = pick(d, "", anyText(d)), pick(d, "", anyText(d)), pick(d, "", anyText(d))
	}
	for range d.below(3) {
		s.Params = append(s.Params, anyText(d))
		s.Locals = append(s.Locals, anyText(d))
	}
	return s
}

// Whatever it is given, no call panics, and each one ends.
func TestZ1Anything(t *testing.T) {
	d := dice(271)
	good := 0
	for range 40000 {
		l := make([]api.Statement, d.below(4))
		for i := range l {
			l[i] = anyStatement(&d)
		}
		input := make([]string, pick(&d, 0, 1, 3))
		for i := range input {
			input[i] = anyText(&d)
		}
		limit := pick(&d, 0, 1, 7, 500, 500, -1, math.MaxInt)
		fault := check.Check(l)
		switch {
		case fault.Err != api.OK:
			wantFault(t, l, input, limit, fault.Err, fault.At)
		case limit < 0 || limit > api.MaxSteps:
			wantFault(t, l, input, limit, api.ErrRange, 0)
		default:
			asRun(t, l, input, limit)
			asModel(t, l, input, limit)
			good++
		}
		if t.Failed() {
			return
		}
	}
	if good < 4000 {
		t.Errorf("only %d programs could be run", good)
	}
}

// Programs that do as much as can be within the limit.
func TestZ1Greatest(t *testing.T) {
	deep := strings.Repeat("F(", 100)
	for _, c := range []struct {
		lines []string
		how   int
	}{
		{[]string{" DEFINE F(N) F", "L F(" + deep + strings.Repeat(")", 100) + ") :(L)", "F N = N + 1", " F(N) :S(RETURN)F(RETURN)"}, api.RanLimit},
		{[]string{" DEFINE F(N) F", "L '.' & F(1) :(L)", "F 'a' & ('b' & ('c' & F(N + 1))) :F(FRETURN)"}, api.RanLimit},
		{[]string{" X = DUPL('a', 65536)", "L X ? [LEN(1) . Y] :(L)"}, api.RanLimit},
		{[]string{" X = DUPL('a', 65536)", "L Y = X & 'a' :(L)"}, api.RanLimit},
		{[]string{" X = DUPL('a', 40000)", "L X ? [POS(0) ARB $ Y RPOS(0)] = X :(L)"}, api.RanLimit},
		{[]string{" X = DUPL('a', 65536)", "L X ? [LEN(1) . Y]", " T<I> = Y", " I = I + 1 :(L)"}, api.RanLimit},
		{[]string{"L OUTPUT = '' :(L)"}, api.RanLimit},
		{[]string{" P := ['a' *P | 'b']", " X = DUPL('a', 65536)", " X ? [*P]"}, api.RanLimit},
		{[]string{" X = DUPL('a', 65536)", " X ? [LEN(65536)] = X & ''"}, api.RanEnd},
	} {
		l := program(t, c.lines...)
		ran := asRun(t, l, nil, api.MaxSteps)
		if ran.How != c.how || c.how == api.RanLimit && ran.Steps != api.MaxSteps {
			t.Errorf("%q: %s", c.lines, show(ran, nil))
		}
		if seen := traceOf(t, l, nil, api.MaxSteps/10); len(seen) == 0 {
			t.Errorf("%q: nothing is seen", c.lines)
		}
	}
}

// The same comes each time, whatever else is run, and by whom.
func TestZ1TheSameEachTime(t *testing.T) {
	d := dice(273)
	g := mixed{&d, []string{"A", "B", "C"}, short(), usual()}
	done := make(chan string)
	for range 100 {
		l := program(t, append(g.lines(10), "L T<N> = N", " N = N + 1", " LT(N, 15) :S(L)")...)
		all := func() string {
			ran, comings, _ := machine.Run(l, short(), 300)
			seen, _ := machine.Trace(l, short(), 300, 300)
			return show(ran, comings) + trail(seen)
		}
		want := all()
		for range 4 {
			go func() { done <- all() }()
		}
		for range 4 {
			if got := <-done; got != want {
				t.Errorf("another time comes %s; want %s", got, want)
			}
		}
	}
}

// roomyExpr is x in memory of its own, with room behind each list of kids, and something wrong in it.
func roomyExpr(x api.Expr) api.Expr {
	kids := make([]api.Expr, 0, len(x.Kids)+1)
	for _, kid := range x.Kids {
		kids = append(kids, roomyExpr(kid))
	}
	x.Kids = append(kids, api.Expr{Kind: 99})[:len(x.Kids)]
	return x
}

func roomyPat(p api.Pat) api.Pat {
	kids := make([]api.Pat, 0, len(p.Kids)+1)
	for _, kid := range p.Kids {
		kids = append(kids, roomyPat(kid))
	}
	p.Kids = append(kids, api.Pat{Kind: api.PatAbort})[:len(p.Kids)]
	return p
}

func roomyTexts(l []string, behind string) []string {
	return append(append(make([]string, 0, len(l)+1), l...), behind)[:len(l)]
}

// roomy is a program in memory of its own, with room behind each list.
func roomy(l []api.Statement) []api.Statement {
	out := make([]api.Statement, 0, len(l)+1)
	for _, s := range l {
		s.Params, s.Locals = roomyTexts(s.Params, "INPUT"), roomyTexts(s.Locals, "INPUT")
		s.Target, s.Value, s.Pat = roomyExpr(s.Target), roomyExpr(s.Value), roomyPat(s.Pat)
		out = append(out, s)
	}
	return append(out, api.Statement{Label: "END"})[:len(l)]
}

// whole are all lists of a program, with the room behind them.
func whole(l []api.Statement) []any {
	out := []any{l[:cap(l)]}
	var kids func(x api.Expr)
	kids = func(x api.Expr) {
		out = append(out, x.Kids[:cap(x.Kids)])
		for _, kid := range x.Kids {
			kids(kid)
		}
	}
	var below func(p api.Pat)
	below = func(p api.Pat) {
		out = append(out, p.Kids[:cap(p.Kids)])
		for _, kid := range p.Kids {
			below(kid)
		}
	}
	for _, s := range l {
		out = append(out, s.Params[:cap(s.Params)], s.Locals[:cap(s.Locals)])
		kids(s.Target)
		kids(s.Value)
		below(s.Pat)
	}
	return out
}

// What is handed in is only read, and the room behind its lists is not looked at.
func TestZ2OnlyReads(t *testing.T) {
	d := dice(279)
	g := mixed{&d, []string{"A", "B", "C"}, short(), usual()}
	over := strings.Repeat("a", api.MaxText+1)
	for range 1000 {
		l := program(t, g.lines(10)...)
		a, b := roomy(l), roomy(l)
		input := roomyTexts([]string{"a", "12", "x"}[:d.below(4)], over)
		before := slices.Clone(input[:cap(input)])
		asModel(t, a, input, 300)
		if !reflect.DeepEqual(whole(a), whole(b)) || !slices.Equal(input[:cap(input)], before) {
			t.Fatalf("what was handed in has changed")
		}
		if t.Failed() {
			return
		}
	}
}

// textsOf are all texts of an answer.
func textsOf(r api.Ran) []string {
	out := slices.Clone(r.Output)
	for _, g := range r.Vars {
		out = append(out, g.Name, g.Text)
	}
	for _, i := range r.Items {
		out = append(out, i.Name, i.Key, i.Text)
	}
	return out
}

// shared tells whether two texts lie in the same memory.
func shared(a, b string) bool {
	if a == "" || b == "" {
		return false
	}
	from, to := uintptr(unsafe.Pointer(unsafe.StringData(a))), uintptr(unsafe.Pointer(unsafe.StringData(b)))
	return from < to+uintptr(len(b)) && to < from+uintptr(len(a))
}

// No text of an answer lies in what was handed in, nor in another one.
func TestZ2AnswersAreNewMemory(t *testing.T) {
	lines := strings.Join([]string{
		" LONGNAME = 'a text of the program'", " OUTPUT = 'a text of the program'", " OUTPUT = LONGNAME", " T<'a key of the program'> = 'a text of the program'", " TT<LONGNAME> = LONGNAME",
		" INPUT ? [LEN(3) . GIVEN REM $ TOLD]", " OUTPUT = INPUT", " X = INPUT", " Y = X", " T<X> = X", " $X = X", " Z = SUBSTR(X, 1, 2)", " 'subject of a match' ? [BREAK(' ') $ OUTPUT LEN(1) REM . OUTPUT]",
	}, "\n") + "\n"
	input := []string{"a line that comes in", "another line", "XYZ"}
	l := program(t, strings.Split(lines, "\n")...)
	ran, comings, fault := machine.Run(l, input, 100)
	if fault != (api.Fault{}) || len(ran.Output) != 5 || len(ran.Vars) != 7 || len(ran.Items) != 3 {
		t.Fatalf("%s, fault %v", show(ran, comings), fault)
	}
	got := textsOf(ran)
	for i, s := range got {
		for _, x := range argumentTexts(l, input) {
			if shared(s, x) {
				t.Errorf("%q of the answer lies in %q, which was handed in", s, x)
			}
		}
		for _, other := range got[:i] {
			if shared(s, other) {
				t.Errorf("%q and %q of one answer lie in the same memory", s, other)
			}
		}
	}
}

// argumentTexts are all texts that are handed in.
func argumentTexts(l []api.Statement, input []string) []string {
	out := slices.Clone(input)
	var expr func(x api.Expr)
	expr = func(x api.Expr) {
		out = append(out, x.Text, x.Name)
		for _, kid := range x.Kids {
			expr(kid)
		}
	}
	var pat func(p api.Pat)
	pat = func(p api.Pat) {
		out = append(out, p.Text, p.Name)
		for _, kid := range p.Kids {
			pat(kid)
		}
	}
	for _, s := range l {
		out = append(out, s.Name, s.Label)
		expr(s.Target)
		expr(s.Value)
		pat(s.Pat)
	}
	return out
}

// Whoever changes what was handed in, or what was answered, changes nothing else.
func TestZ2NothingIsKept(t *testing.T) {
	l, input := program(t, " OUTPUT = INPUT", " X = 'a'", " T<1> = 'b'", " 'abc' ? ['b' . Y]"), []string{"line"}
	ran, comings := answerTo(t, l, input, 50)
	again, twice := answerTo(t, l, input, 50)
	seen, other := traceOf(t, l, input, 50), traceOf(t, l, input, 50)
	want := show(ran, comings) + trail(seen)
	clear(l[:cap(l)])
	clear(input)
	clear(again.Output[:cap(again.Output)])
	clear(again.Vars[:cap(again.Vars)])
	clear(again.Items[:cap(again.Items)])
	clear(twice[:cap(twice)])
	clear(other[:cap(other)])
	if got := show(ran, comings) + trail(seen); got != want {
		t.Errorf("what was done elsewhere is seen in an answer: %s; want %s", got, want)
	}
}

// nil and a list without entries are the same.
func TestZ3NoEntries(t *testing.T) {
	l := program(t, " DEFINE F() L", " OUTPUT = F() & X", " 'a' ? ['a']", " :(END)", "L F = 'f' :(RETURN)")
	full := slices.Clone(l)
	for i, s := range full {
		s.Params, s.Locals, s.Target.Kids, s.Value.Kids, s.Pat.Kids = append([]string{}, s.Params...), append([]string{}, s.Locals...), append([]api.Expr{}, s.Target.Kids...), append([]api.Expr{}, s.Value.Kids...), append([]api.Pat{}, s.Pat.Kids...)
		full[i] = s
	}
	a, m := answerTo(t, l, nil, 50)
	b, n := answerTo(t, full, []string{}, 50)
	if show(a, m) != show(b, n) || show(a, m) != `end 6 [1 1 1 1 1] ["f"]` {
		t.Errorf("%s and %s", show(a, m), show(b, n))
	}
	if a, b := trail(traceOf(t, l, nil, 50)), trail(traceOf(t, full, []string{}, 50)); a != b || a != "0+ 1+ 4.1+ 2+ 3+" {
		t.Errorf("%s and %s", a, b)
	}
}

// Beside no fault there is no place, how it ended is one of three ways, and each statement has its number.
func TestZ4Answers(t *testing.T) {
	d := dice(283)
	g := mixed{&d, []string{"A", "B"}, short(), usual()}
	for range 1000 {
		l := program(t, g.lines(8)...)
		ran, comings := answerTo(t, l, short(), d.below(100))
		if ran.How < api.RanEnd || ran.How > api.RanMuch || len(comings) != len(l) {
			t.Fatalf("%s", show(ran, comings))
		}
		for _, x := range ran.Vars {
			if x.Text == "" || x.Name == "INPUT" || x.Name == "OUTPUT" {
				t.Fatalf("a variable %v is told", x)
			}
		}
		for _, x := range ran.Items {
			if x.Text == "" {
				t.Fatalf("an item %v is told", x)
			}
		}
	}
}
