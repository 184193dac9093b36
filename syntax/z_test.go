package syntax_test

import (
	"reflect"
	"testing"
	"unsafe"

	"scanfail/api"
	"scanfail/syntax"
)

// shares tells whether two texts lie, in part, in the same memory.
func shares(a, b string) bool {
	if a == "" || b == "" {
		return false
	}
	p, q := uintptr(unsafe.Pointer(unsafe.StringData(a))), uintptr(unsafe.Pointer(unsafe.StringData(b)))
	return p < q+uintptr(len(b)) && q < p+uintptr(len(a))
}

func textsOfExpr(x api.Expr) []string {
	out := []string{x.Text, x.Name}
	for _, kid := range x.Kids {
		out = append(out, textsOfExpr(kid)...)
	}
	return out
}

func textsOfPat(p api.Pat) []string {
	out := []string{p.Text, p.Name}
	for _, kid := range p.Kids {
		out = append(out, textsOfPat(kid)...)
	}
	return out
}

// textsOf are all texts of a statement.
func textsOf(s api.Statement) []string {
	out := []string{s.Label, s.Name, s.Entry, s.Always, s.Yes, s.Noes}
	out = append(append(out, s.Params...), s.Locals...)
	out = append(append(out, textsOfExpr(s.Target)...), textsOfExpr(s.Value)...)
	return append(out, textsOfPat(s.Pat)...)
}

var rich = []string{
	"LABEL TABLE<'key' & NAME> = FUNC(1, 'text', $INDIR, -OTHER) :S(YES)F(NOES)",
	"LABEL NAME ? ['text' . GIVEN | ANY('bytes') *RULE] = 'it''s' :(ALWAYS)",
	"LABEL RULE := ['text' $ GIVEN]",
	"LABEL DEFINE FUNC(ALPHA,BETA)GAMMA,DELTA ENTRY :(ALWAYS)",
	"LABEL 'text' & 'text' & 'text'",
}

func TestZ2AnswersAreNewMemory(t *testing.T) {
	program := ""
	for _, line := range rich {
		s, some, fault := syntax.Line(line)
		if !some || fault.Err != api.OK {
			t.Errorf("Line %q: %v, fault %v", line, some, fault)
		}
		for _, x := range textsOf(s) {
			if shares(x, line) {
				t.Errorf("Line %q: %q lies in what it was given", line, x)
			}
		}
		again, err := syntax.Print(s)
		if err != api.OK {
			t.Errorf("Print: error %d", err)
		}
		for _, x := range textsOf(s) {
			if shares(x, again) {
				t.Errorf("Print of %q: it lies in %q, which it was given", again, x)
			}
		}
		program += line + "\n"
	}
	l, fault := syntax.Read(program)
	if len(l) != len(rich) || fault.Err != api.OK {
		t.Errorf("Read: %d statements, fault %v", len(l), fault)
	}
	for _, s := range l {
		for _, x := range textsOf(s) {
			if shares(x, program) {
				t.Errorf("Read: %q lies in what it was given", x)
			}
		}
	}
	if label, _ := syntax.Print(api.Statement{Label: l[0].Label, Kind: api.StEmpty}); shares(label, l[0].Label) {
		t.Errorf("Print of a label alone: it is what it was given")
	}
}

// spoil writes over all of a statement's lists, and the room behind them.
func spoil(s api.Statement) {
	clear(s.Params[:cap(s.Params)])
	clear(s.Locals[:cap(s.Locals)])
	spoilExpr(s.Target)
	spoilExpr(s.Value)
	spoilPat(s.Pat)
}

func spoilExpr(x api.Expr) {
	for _, kid := range x.Kids {
		spoilExpr(kid)
	}
	clear(x.Kids[:cap(x.Kids)])
}

func spoilPat(p api.Pat) {
	for _, kid := range p.Kids {
		spoilPat(kid)
	}
	clear(p.Kids[:cap(p.Kids)])
}

// grown puts something behind each list of an expression: no other list may show it.
func grown(x api.Expr) {
	_ = append(x.Kids, api.Expr{Kind: 99}, api.Expr{Kind: 99})
	for _, kid := range x.Kids {
		grown(kid)
	}
}

func TestZ2ListsAreApart(t *testing.T) {
	for _, line := range rich {
		want, _, _ := modelLine(line)
		a, _, _ := syntax.Line(line)
		b, _, _ := syntax.Line(line)
		spoil(a)
		if !same(b, want) {
			t.Errorf("Line %q: what was done with one answer is seen in another one", line)
		}
		_ = append(b.Params, "X")
		_ = append(b.Locals, "Y")
		grown(b.Target)
		grown(b.Value)
		if !same(b, want) {
			t.Errorf("Line %q: lists of one answer share memory", line)
		}
		wantLine(t, line, want)
		l, _ := syntax.Read(line + "\n" + line + "\n")
		spoil(l[0])
		if !same(l[1], want) {
			t.Errorf("Read: two statements of one answer share memory")
		}
	}
}

// copyOf is a statement in memory of its own, but for its texts, which nobody can change.
func copyOf(s api.Statement) api.Statement {
	s.Params, s.Locals = append([]string{}, s.Params...), append([]string{}, s.Locals...)
	s.Target, s.Value, s.Pat = copyOfExpr(s.Target), copyOfExpr(s.Value), copyOfPat(s.Pat)
	return s
}

func copyOfExpr(x api.Expr) api.Expr {
	kids := []api.Expr{}
	for _, kid := range x.Kids {
		kids = append(kids, copyOfExpr(kid))
	}
	x.Kids = kids
	return x
}

func copyOfPat(p api.Pat) api.Pat {
	kids := []api.Pat{}
	for _, kid := range p.Kids {
		kids = append(kids, copyOfPat(kid))
	}
	p.Kids = kids
	return p
}

// What is handed in is only read, and the room behind its lists is not looked at.
func TestZ2OnlyReads(t *testing.T) {
	d := dice(53)
	for range 500 {
		room := []api.Statement{someStatement(&d), someStatement(&d), {Kind: 99}, {Label: "no label"}}
		names := []string{"A", "B", "no name", ""}
		kids := []api.Expr{mixed(&d, 3), {Kind: 99}, endless(api.ExAdd, 2)}
		room[0] = define("F", names[:2], names[:1], "L")
		room[1].Kind, room[1].Value = api.StEval, api.Expr{Kind: api.ExCall, Name: "F", Kids: kids[:1]}
		l := room[:2]
		before := []api.Statement{copyOf(l[0]), copyOf(l[1])}
		for i, s := range l {
			if err := syntax.Wrong(s); err != api.OK {
				t.Fatalf("Wrong of %s: error %d", tell(s), err)
			}
			if err := syntax.Expr(l[1].Value); err != api.OK {
				t.Fatalf("Expr: error %d", err)
			}
			line, err := syntax.Print(s)
			if want, _ := syntax.Print(before[i]); err != api.OK && err != api.ErrMuch || line != want {
				t.Fatalf("Print: %q, error %d; want %q", brief(line), err, brief(want))
			}
		}
		program, fault := syntax.Show(l)
		if want, wrong := syntax.Show(before); program != want || fault != wrong {
			t.Fatalf("Show: %q, fault %v; want %q, %v", brief(program), fault, brief(want), wrong)
		}
		if !sameAll(l, before) || room[2].Kind != 99 || room[3].Label != "no label" || !reflect.DeepEqual(names, []string{"A", "B", "no name", ""}) || kids[1].Kind != 99 || kids[1].Kids != nil {
			t.Fatalf("what was handed in has changed: %s", tell(before))
		}
	}
}

// nil and a list without entries are the same.
func TestZ3NoEntries(t *testing.T) {
	empties := []api.Expr{}
	for _, s := range sound() {
		full := s
		if len(full.Params) == 0 {
			full.Params = []string{}
		}
		if len(full.Locals) == 0 {
			full.Locals = []string{}
		}
		if len(full.Value.Kids) == 0 {
			full.Value.Kids = empties
		}
		if len(full.Target.Kids) == 0 {
			full.Target.Kids = empties
		}
		if len(full.Pat.Kids) == 0 {
			full.Pat.Kids = []api.Pat{}
		}
		wantWrong(t, "empty lists", full, api.OK)
		want, _ := syntax.Print(s)
		wantPrint(t, full, want)
	}
	for kind := range 15 {
		a, b := syntax.Expr(api.Expr{Kind: kind, Name: "A"}), syntax.Expr(api.Expr{Kind: kind, Name: "A", Kids: empties})
		if a != b {
			t.Errorf("Expr of kind %d: %d without a list, %d with an empty one", kind, a, b)
		}
	}
}

// What a call answers does not hang on the calls ahead of it.
func TestZ1CallsDoNotKnowOfOneAnother(t *testing.T) {
	for range 20 {
		wantFault(t, " X = "+many("(", api.MaxDeep), api.ErrMuch, 5+api.MaxDeep)
		wantLine(t, " X = "+nest("(", "1", ")", api.MaxDeep-1), assign(name("X"), number(1)))
		wantForm(t, " X = ", 5)
		wantLine(t, "", empty())
		wantRemark(t, "*")
		wantFault(t, " F(1,2,3,4,5,6,7,8,9)", api.ErrMany, 19)
		wantLine(t, " F(1)", eval(call("F", number(1))))
		wantReadFault(t, "\n;", api.ErrForm, 1)
		wantRead(t, "\n", empty())
	}
}

func TestZ1SeveralAtOnce(t *testing.T) {
	done := make(chan string)
	for range 8 {
		go func() {
			said := ""
			for range 200 {
				s, some, fault := syntax.Line("L X = 'it''s' & -2 :(L)")
				line, err := syntax.Print(s)
				if !some || fault.Err != api.OK || err != api.OK || line != "L X = 'it''s' & -2 :(L)" {
					said = "something else comes when several are at it"
				}
				if _, _, fault := syntax.Line(" X = )"); fault != (api.Fault{Err: api.ErrForm, At: 5}) {
					said = "another fault comes when several are at it"
				}
			}
			done <- said
		}()
	}
	for range 8 {
		if said := <-done; said != "" {
			t.Error(said)
		}
	}
}

// No call panics, and every call ends, whatever it is given.
func TestZ1Whatever(t *testing.T) {
	const some = " XF1'[]=?&+-*/%()<>,:$\n\x00\xff;"
	d := dice(59)
	for range 20000 {
		line := make([]byte, d.below(40))
		for i := range line {
			line[i] = some[d.below(len(some))]
		}
		asModel(t, string(line))
		if l, fault := syntax.Read(string(line)); fault.Err != api.OK && len(l) > 0 {
			t.Errorf("Read %q: %d statements beside fault %v", line, len(l), fault)
		}
	}
	for range 3000 {
		s := api.Statement{Kind: d.below(9), Label: anyName(&d), Always: anyName(&d), Name: anyName(&d), Entry: anyName(&d), Target: anyExpr(&d, 3), Value: anyExpr(&d, 4), Params: []string{anyName(&d)}}
		s.Pat = api.Pat{Kind: d.below(26), Text: anyName(&d), N: d.below(3) - 1, Name: anyName(&d)}
		wrong := syntax.Wrong(s)
		line, err := syntax.Print(s)
		if wrong != api.OK && err != wrong || err != api.OK && line != "" {
			t.Errorf("Print of %s: %q, error %d, and it is wrong by %d", tell(s), line, err, wrong)
		}
	}
}

func anyName(d *dice) string { return []string{"", "A", "B9", "a", "\n", longest, "1"}[d.below(7)] }

func anyExpr(d *dice, depth int) api.Expr {
	x := api.Expr{Kind: d.below(15), Text: anyName(d), N: int64(d.below(3) - 1), Name: anyName(d)}
	for range d.below(depth) {
		x.Kids = append(x.Kids, anyExpr(d, depth-1))
	}
	return x
}
