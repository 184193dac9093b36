package fold_test

import (
	"fmt"
	"reflect"
	"slices"
	"strings"
	"testing"
	"unsafe"

	"scanfail/api"
	"scanfail/check"
	"scanfail/fold"
	"scanfail/syntax"
)

func anyText(d *dice) string {
	return pick(d, "", "", "A", "F", "END", "SIZE", "INPUT", "a", "1", "\x00", strings.Repeat("A", 17), "RETURN", "B", "A", "B")
}

func anyExpr(d *dice, depth int) api.Expr {
	x := api.Expr{Kind: d.below(16) - 1, Text: anyText(d), N: int64(d.below(4) - 1), Name: anyText(d)}
	for range d.below(depth + 1) {
		x.Kids = append(x.Kids, anyExpr(d, depth-1))
	}
	return x
}

func anyPat(d *dice, depth int) api.Pat {
	p := api.Pat{Kind: d.below(26), Text: anyText(d), N: d.below(5) - 1, Name: anyText(d)}
	for range d.below(depth + 1) {
		p.Kids = append(p.Kids, anyPat(d, depth-1))
	}
	return p
}

func anyStatement(d *dice) api.Statement {
	s := api.Statement{Label: pick(d, "", anyText(d)), Kind: d.below(10) - 1, Target: anyExpr(d, 1), Value: anyExpr(d, 2), Pat: anyPat(d, 2)}
	s.Name, s.Entry = anyText(d), pick(d, "A", "B", anyText(d))
	if d.below(2) == 0 {
		s.Always, s.Yes, s.Noes = pick(d, "", anyText(d)), pick(d, "", anyText(d)), pick(d, "", anyText(d))
	}
	for range d.below(3) {
		s.Params = append(s.Params, anyText(d))
		s.Locals = append(s.Locals, anyText(d))
	}
	return s
}

// Whatever it is given, no call panics, and each one ends. What is wrong is what Check says.
func TestZ1Anything(t *testing.T) {
	d := dice(371)
	good := 0
	for range 60000 {
		l := make([]api.Statement, d.below(4))
		for i := range l {
			l[i] = anyStatement(&d)
		}
		if fault := check.Check(l); fault.Err != api.OK {
			wantFault(t, l, fault.Err, fault.At)
		} else {
			quicker(t, l)
			good++
		}
		if t.Failed() {
			return
		}
	}
	if good < 4000 {
		t.Errorf("nothing is wrong with only %d programs", good)
	}
}

// endless is an expression of a kind that holds itself.
func endless(kind int) api.Expr {
	l := make([]api.Expr, 2)
	for i := range l {
		l[i] = api.Expr{Kind: kind, Name: "X", Kids: l}
	}
	return l[0]
}

func endlessPat() api.Pat {
	l := make([]api.Pat, 2)
	for i := range l {
		l[i] = api.Pat{Kind: api.PatAlt, Kids: l}
	}
	return l[0]
}

// Expressions and patterns that hold themselves.
func TestZ1WithoutAnEnd(t *testing.T) {
	for kind := api.ExText; kind <= api.ExRem; kind++ {
		x := endless(kind)
		for _, s := range []api.Statement{{Kind: api.StEval, Value: x}, {Kind: api.StMatch, Value: x}, {Kind: api.StAssign, Target: x}, {Kind: api.StReplace, Target: x, Value: x}} {
			wantFault(t, []api.Statement{{Kind: api.StEmpty}, s}, api.ErrMuch, 1)
		}
	}
	for _, kind := range []int{api.StMatch, api.StReplace, api.StRule} {
		wantFault(t, []api.Statement{{Kind: kind, Name: "P", Target: name("X"), Value: number(1), Pat: endlessPat()}}, api.ErrMuch, 0)
	}
}

// Nobody looks at them where the statement's kind does not name them.
func TestZ1WithoutAnEndAndNotNamed(t *testing.T) {
	x, p := endless(api.ExAdd), endlessPat()
	l := []api.Statement{
		{Kind: api.StEmpty, Target: x, Value: x, Pat: p}, {Kind: api.StEval, Target: x, Value: neg(number(1)), Pat: p}, {Kind: api.StMatch, Target: x, Value: neg(number(1)), Pat: api.Pat{Kind: api.PatLen}},
		{Kind: api.StAssign, Target: name("X"), Value: neg(number(1)), Pat: p}, {Kind: api.StRule, Name: "P", Target: x, Value: x, Pat: api.Pat{Kind: api.PatLen}}, {Kind: api.StDefine, Label: "L", Name: "F", Entry: "L", Target: x, Value: x, Pat: p},
	}
	k, fault := fold.Program(l)
	if fault != (api.Fault{}) || len(k) != len(l) {
		t.Fatalf("%d statements, fault %v", len(k), fault)
	}
	for _, at := range []int{1, 2, 3} {
		if !sameExpr(k[at].Value, text("-1")) {
			t.Errorf("at %d: %+v", at, k[at].Value)
		}
	}
	for _, at := range []int{2, 4} {
		if !samePat(k[at].Pat, api.Pat{Kind: api.PatLit}) {
			t.Errorf("at %d: %+v", at, k[at].Pat)
		}
	}
}

// The greatest programs are done in no time worth telling.
func TestZ1Greatest(t *testing.T) {
	sum := balanced(1, api.MaxNodes/2, func(n int) api.Expr {
		if n == 1 {
			return name("X")
		}
		return number(int64(n))
	})
	p := api.Pat{Kind: api.PatCat}
	for range api.MaxNodes - 1 {
		p.Kids = append(p.Kids, api.Pat{Kind: api.PatLit, Text: "a"})
	}
	l := chain(api.MaxLines-100, "L0")
	for i := range 100 {
		l = append(l, api.Statement{Kind: api.StReplace, Target: name("X"), Value: sum, Pat: p, Yes: "L0", Noes: fmt.Sprint("L", i)})
	}
	k, fault := fold.Program(l)
	last := len(l) - 1
	if fault != (api.Fault{}) || len(k) != len(l) || nodes(k[last:]) != 1+23 || !samePat(k[last].Pat, api.Pat{Kind: api.PatLit, Text: strings.Repeat("a", api.MaxNodes-1)}) || k[last].Yes != "L0" || k[last].Noes != "L99" {
		t.Errorf("%d statements, fault %v", len(k), fault)
	}
}

// The same comes each time, whatever else is made quicker, and by whom.
func TestZ1TheSameEachTime(t *testing.T) {
	d := dice(373)
	g := mixed{&d, []string{"A", "B", "C"}}
	done := make(chan string)
	for range 200 {
		l, _ := g.program(t)
		all := func() string {
			k, fault := fold.Program(l)
			return fmt.Sprintf("%+v %v", k, fault)
		}
		want := all()
		for range 4 {
			go func() { done <- all() }()
		}
		for range 4 {
			if got := <-done; got != want {
				t.Errorf("another time comes %s; want %s", got, want)
			}
		}
	}
}

// roomyExpr is x in memory of its own, with room behind each list of kids, and something wrong in it.
func roomyExpr(x api.Expr) api.Expr {
	kids := make([]api.Expr, 0, len(x.Kids)+1)
	for _, kid := range x.Kids {
		kids = append(kids, roomyExpr(kid))
	}
	x.Kids = append(kids, api.Expr{Kind: 99})[:len(x.Kids)]
	return x
}

func roomyPat(p api.Pat) api.Pat {
	kids := make([]api.Pat, 0, len(p.Kids)+1)
	for _, kid := range p.Kids {
		kids = append(kids, roomyPat(kid))
	}
	p.Kids = append(kids, api.Pat{Kind: api.PatAbort})[:len(p.Kids)]
	return p
}

func roomyTexts(l []string, behind string) []string {
	return append(append(make([]string, 0, len(l)+1), l...), behind)[:len(l)]
}

// roomy is a program in memory of its own, with room behind each list.
func roomy(l []api.Statement) []api.Statement {
	out := make([]api.Statement, 0, len(l)+1)
	for _, s := range l {
		s.Params, s.Locals = roomyTexts(s.Params, "INPUT"), roomyTexts(s.Locals, "INPUT")
		s.Target, s.Value, s.Pat = roomyExpr(s.Target), roomyExpr(s.Value), roomyPat(s.Pat)
		out = append(out, s)
	}
	return append(out, api.Statement{Label: "END"})[:len(l)]
}

// parts are all lists of a program, with the room behind them, and all its texts.
type parts struct {
	lists []any
	texts []string
}

func (p *parts) expr(x api.Expr) {
	p.lists, p.texts = append(p.lists, x.Kids[:cap(x.Kids)]), append(p.texts, x.Text, x.Name)
	for _, kid := range x.Kids {
		p.expr(kid)
	}
}

func (p *parts) pat(x api.Pat) {
	p.lists, p.texts = append(p.lists, x.Kids[:cap(x.Kids)]), append(p.texts, x.Text, x.Name)
	for _, kid := range x.Kids {
		p.pat(kid)
	}
}

func partsOf(l []api.Statement) parts {
	p := parts{lists: []any{l[:cap(l)]}}
	for _, s := range l {
		p.lists = append(p.lists, s.Params[:cap(s.Params)], s.Locals[:cap(s.Locals)])
		p.texts = append(append(append(p.texts, s.Label, s.Name, s.Entry, s.Always, s.Yes, s.Noes), s.Params...), s.Locals...)
		p.expr(s.Target)
		p.expr(s.Value)
		p.pat(s.Pat)
	}
	return p
}

// What is handed in is only read, and the room behind its lists is not looked at.
func TestZ2OnlyReads(t *testing.T) {
	d := dice(379)
	g := mixed{&d, []string{"A", "B", "C"}}
	for range 1500 {
		l, _ := g.program(t)
		a, b := roomy(l), roomy(l)
		quicker(t, a)
		if !reflect.DeepEqual(partsOf(a), partsOf(b)) {
			t.Fatalf("what was handed in has changed")
		}
		if t.Failed() {
			return
		}
	}
}

// memory is where something lies, up to where.
type memory struct{ from, to uintptr }

func (m memory) meets(n memory) bool { return m.from < n.to && n.from < m.to }

// memories are where lists and texts of a program lie, the lists with the room behind them.
func memories(l []api.Statement) []memory {
	var out []memory
	p := partsOf(l)
	for _, list := range p.lists {
		if v := reflect.ValueOf(list); v.Cap() > 0 {
			from := v.Pointer()
			out = append(out, memory{from, from + uintptr(v.Cap())*v.Type().Elem().Size()})
		}
	}
	for _, s := range p.texts {
		if len(s) > 1 { // texts of one byte may lie where the language keeps them all
			from := uintptr(unsafe.Pointer(unsafe.StringData(s)))
			out = append(out, memory{from, from + uintptr(len(s))})
		}
	}
	return out
}

// Answers lie in memory of their own, each of their parts.
func TestZ2AnswersAreNewMemory(t *testing.T) {
	d := dice(383)
	g := mixed{&d, []string{"FIRST", "SECOND", "THIRD"}}
	lines := []string{"LABEL X = 'a text' & NAME :S(OTHER)F(LABEL)", "OTHER :(NEXT)", "NEXT DEFINE FUNC(PARAM,MORE)LOCAL,LAST LABEL", " TABLE<'a key'> ? ['ab' . GIVEN *CALLED] = TRIM('piece   ')", " RULE := ['stays' FAIL *CALLED ANY('xyz') @PLACE]", " X = 'same' & ''", " X = SUBSTR('a piece of it', 3, 5) & FUNC('arg', 12)", " X = '' & 'alone'"}
	for i := range 1000 {
		l := program(t, lines...)
		if i > 0 {
			l, _ = g.program(t)
		}
		given := memories(l)
		answered := memories(quicker(t, l))
		for j, m := range answered {
			for _, n := range given {
				if m.meets(n) {
					t.Fatalf("of%s\nthe answer lies in what was handed in", tell(l))
				}
			}
			for _, n := range answered[:j] {
				if m.meets(n) {
					t.Fatalf("of%s\ntwo parts of the answer share memory", tell(l))
				}
			}
		}
	}
}

// wreck changes all that it can of a program, and the room behind its lists.
func wreck(l []api.Statement) {
	for _, list := range partsOf(l).lists {
		v := reflect.ValueOf(list)
		reflect.Copy(v, reflect.MakeSlice(v.Type(), v.Len(), v.Len()))
	}
}

// Whoever changes what was handed in, or what was answered, changes nothing else.
func TestZ2NothingIsKept(t *testing.T) {
	d := dice(389)
	g := mixed{&d, []string{"A", "B", "C"}}
	for range 500 {
		l, _ := g.program(t)
		k, again := quicker(t, l), quicker(t, l)
		want := fmt.Sprintf("%+v", k)
		wreck(l)
		wreck(again)
		if got := fmt.Sprintf("%+v", k); got != want {
			t.Fatalf("what was done elsewhere is seen in an answer: %s; want %s", got, want)
		}
	}
}

// nil and a list without entries are the same.
func TestZ3NoEntries(t *testing.T) {
	l := program(t, "L DEFINE F() L", " X = F() & (1 + 1)", " X ? ['a' '']")
	full := slices.Clone(l)
	for i, s := range full {
		s.Params, s.Locals, s.Target.Kids, s.Value.Kids, s.Pat.Kids = append([]string{}, s.Params...), append([]string{}, s.Locals...), append([]api.Expr{}, s.Target.Kids...), append([]api.Expr{}, s.Value.Kids...), append([]api.Pat{}, s.Pat.Kids...)
		full[i] = s
	}
	leaf := full[1].Value.Kids[1]
	leaf.Kids = slices.Clone(leaf.Kids)
	for i := range leaf.Kids {
		leaf.Kids[i].Kids = []api.Expr{}
	}
	full[1].Value.Kids[1] = leaf
	want := program(t, "L DEFINE F() L", " X = F() & 2", " X ? ['a']")
	for _, p := range [][]api.Statement{l, full} {
		if k := quicker(t, p); !same(k, want) {
			t.Errorf("it becomes%s", tell(k))
		}
	}
	for _, none := range [][]api.Statement{nil, {}} {
		if k, fault := fold.Program(none); len(k) != 0 || fault != (api.Fault{}) {
			t.Errorf("of nothing come %d statements, fault %v", len(k), fault)
		}
	}
}

// What an expression's kind does not name is empty, or 0, in what is worked out.
func TestZ4WhatIsWorkedOut(t *testing.T) {
	d := dice(397)
	g := mixed{&d, []string{"A", "B"}}
	for range 1000 {
		l, _ := g.program(t)
		if k := quicker(t, l); !showsAgain(k) {
			t.Fatalf("of%s\ncomes %+v", tell(l), k)
		}
	}
}

// showsAgain tells whether a program is the one that is read when it is written; one that can't be written is not asked.
func showsAgain(l []api.Statement) bool {
	s, fault := syntax.Show(l)
	if fault.Err != api.OK {
		return true
	}
	again, fault := syntax.Read(s)
	return fault == (api.Fault{}) && same(again, l)
}
