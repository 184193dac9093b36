package code_test

import (
	"slices"
	"strings"
	"testing"

	"scanfail/api"
	"scanfail/check"
	"scanfail/code"
)

// asModel holds what comes of a program, in which nothing is wrong, against the model.
func asModel(t *testing.T, l []api.Statement) []api.Instr {
	t.Helper()
	want, starts := modelMake(l)
	wantMade(t, l, starts, want...)
	return want
}

// mixed makes programs in which nothing is wrong.
type mixed struct {
	*dice
	labels []string
}

func (d mixed) name() string {
	return pick(d.dice, "X", "Y", "INPUT", "OUTPUT", "F", "L", "SIZE", "END")
}

// leaf is an expression without kids.
func (d mixed) leaf() api.Expr {
	switch d.below(4) {
	case 0:
		return api.Expr{Kind: api.ExText, Text: pick(d.dice, "", "0", "a", "X", "\n")}
	case 1:
		return api.Expr{Kind: api.ExNumber, N: pick[int64](d.dice, 0, 1, 10, 1<<62)}
	case 2:
		return d.call("F", 0)
	}
	return api.Expr{Kind: api.ExName, Name: d.name()}
}

func (d mixed) kids(n, depth int) []api.Expr {
	var out []api.Expr
	for range n {
		out = append(out, d.expr(depth-1))
	}
	return out
}

func (d mixed) call(s string, depth int) api.Expr {
	n := check.Builtin(s)
	if n < 0 {
		n = d.below(int(s[0]-'F')*4 + 1) // F takes none, G four, H eight
	}
	return api.Expr{Kind: api.ExCall, Name: s, Kids: d.kids(n, depth)}
}

func (d mixed) expr(depth int) api.Expr {
	if depth <= 0 {
		return d.leaf()
	}
	switch kind := d.below(api.ExRem) + 1; kind {
	case api.ExItem:
		return api.Expr{Kind: kind, Name: d.name(), Kids: d.kids(1, depth)}
	case api.ExIndirect, api.ExNeg:
		return api.Expr{Kind: kind, Kids: d.kids(1, depth)}
	case api.ExCall:
		return d.call(pick(d.dice, append(ofTheLanguage, "F", "G", "H", "F", "G", "H")...), depth)
	case api.ExCat, api.ExAdd, api.ExSub, api.ExMul, api.ExDiv, api.ExRem:
		return api.Expr{Kind: kind, Kids: d.kids(2, depth)}
	}
	return d.leaf()
}

func (d mixed) target() api.Expr {
	switch d.below(3) {
	case 0:
		return api.Expr{Kind: api.ExItem, Name: d.name(), Kids: d.kids(1, 3)}
	case 1:
		return api.Expr{Kind: api.ExIndirect, Kids: d.kids(1, 3)}
	}
	return api.Expr{Kind: api.ExName, Name: d.name()}
}

func (d mixed) label() string {
	return pick(d.dice, append([]string{"", "", "END", "RETURN", "FRETURN"}, d.labels...)...)
}

// statement is any but StDefine; what its kind does not name is there as well.
func (d mixed) statement() api.Statement {
	s := api.Statement{Kind: d.below(api.StRule) + 1, Target: d.target(), Value: d.expr(d.below(5)), Pat: api.Pat{Kind: api.PatArb}, Name: "P", Entry: "NOWHERE"}
	switch d.below(3) {
	case 0:
		s.Always = d.label()
	case 1:
		s.Yes, s.Noes = d.label(), d.label()
	}
	return s
}

func (d mixed) program() []api.Statement {
	var l []api.Statement
	for range d.below(8) {
		l = append(l, d.statement())
	}
	for _, label := range d.labels {
		s := d.statement()
		s.Label = label
		l = slices.Insert(l, d.below(len(l)+1), s)
	}
	params := strings.Split("ABCDEMNO", "")
	for n, s := range []string{"F", "G", "H"} {
		l = slices.Insert(l, d.below(len(l)+1), api.Statement{Kind: api.StDefine, Name: s, Params: params[:n*4], Entry: pick(d.dice, d.labels...), Yes: d.label()})
	}
	return l
}

// Mixed programs, whole; all instructions come about in them.
func TestM3Sweep(t *testing.T) {
	d := dice(21)
	var ops [api.OpEnd + 1]int
	for range 20000 {
		l := mixed{&d, []string{"L", "M", "K"}[:1+d.below(3)]}.program()
		if fault := check.Check(l); fault != (api.Fault{}) {
			t.Fatalf("Check: fault %v", fault)
		}
		for _, i := range asModel(t, l) {
			ops[i.Op]++
		}
		if t.Failed() {
			return
		}
	}
	for op, n := range ops {
		if op > 0 && n < 1000 {
			t.Errorf("instruction %d came about %d times", op, n)
		}
	}
}

// However it goes on, it goes to an instruction that is there: where a statement begins, or to the last one; and where it fails to a way on.
func TestM2WhereItGoes(t *testing.T) {
	d := dice(23)
	for range 3000 {
		out, starts, _ := code.Make(mixed{&d, []string{"L", "M"}}.program())
		for at, i := range out {
			switch {
			case i.Op == api.OpJump && i.To != len(out)-1 && !slices.Contains(starts, i.To):
				t.Fatalf("at %d: %v; they begin at %v", at, i, starts)
			case i.Op == api.OpStep && !slices.Contains([]int{api.OpJump, api.OpReturn, api.OpFail, api.OpEnd}, out[i.To].Op):
				t.Fatalf("at %d: %v leads to %v", at, i, out[i.To])
			case i.Op != api.OpJump && i.Op != api.OpStep && i.To != 0:
				t.Fatalf("at %d: %v", at, i)
			}
		}
	}
}

// Within each statement the stacks are empty again behind its body, and nothing is taken of what is not there.
func TestM1Stacks(t *testing.T) {
	d := dice(25)
	texts := map[int]int{api.OpText: 1, api.OpRead: 1, api.OpTwo: -1, api.OpEntry: -1, api.OpWhere: -1, api.OpLook: 1, api.OpMatch: -1, api.OpFind: 1, api.OpMend: -2, api.OpWrite: -1, api.OpDrop: -1}
	takes := map[int]int{api.OpItem: 1, api.OpName: 1, api.OpTwo: 2, api.OpEntry: 1, api.OpWhere: 1, api.OpMatch: 1, api.OpFind: 1, api.OpMend: 3, api.OpWrite: 1, api.OpDrop: 1}
	places := map[int]int{api.OpVar: 1, api.OpEntry: 1, api.OpWhere: 1, api.OpWrite: -1}
	for range 3000 {
		out, _, _ := code.Make(mixed{&d, []string{"L", "M"}}.program())
		stack, open := 0, 0
		for at, i := range out {
			more, least := texts[i.Op], takes[i.Op]
			if i.Op == api.OpMake || i.Op == api.OpCall {
				more, least = 1-i.N, i.N
			}
			if stack < least || i.Op == api.OpStep && (stack != 0 || open != 0) || i.Op == api.OpLook && open == 0 {
				t.Fatalf("at %d: %v, with %d texts and %d places there", at, i, stack, open)
			}
			stack, open = stack+more, open+places[i.Op]
		}
	}
}
