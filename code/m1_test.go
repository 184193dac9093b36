package code_test

import (
	"slices"
	"strings"
	"testing"

	"scanfail/api"
	"scanfail/check"
	"scanfail/code"
)

func TestM1NoStatement(t *testing.T) {
	wantMade(t, nil, nil, end())
	wantMade(t, []api.Statement{}, nil, end())
}

// What Check says, and at which number.
func TestM1WhatCheckSays(t *testing.T) {
	for _, c := range []struct {
		lines []string
		err   api.Errno
		at    int
	}{
		{[]string{"L :(M)"}, api.ErrNone, 0},
		{[]string{" X = 1", " X = 2 :S(M)"}, api.ErrNone, 1},
		{[]string{" X = 1", "L", "L"}, api.ErrName, 2},
		{[]string{"", "", "END"}, api.ErrName, 2},
		{[]string{"", "RETURN"}, api.ErrName, 1},
		{[]string{"FRETURN"}, api.ErrName, 0},
		{[]string{" X = F()"}, api.ErrName, 0},
		{[]string{"", " X = SIZE()"}, api.ErrMany, 1},
		{[]string{"", "L DEFINE F() L", " F(1)"}, api.ErrMany, 2},
		{[]string{"", "", "", " DEFINE F() L"}, api.ErrNone, 3},
		{[]string{"L DEFINE SIZE(A) L"}, api.ErrName, 0},
		{[]string{"L X = F() :(M)", "L"}, api.ErrName, 1},
	} {
		wantFault(t, program(t, c.lines...), c.err, c.at)
	}
	number := api.Expr{Kind: api.ExNumber, N: 1}
	for _, c := range []struct {
		s   api.Statement
		err api.Errno
	}{
		{api.Statement{}, api.ErrKind},
		{api.Statement{Kind: api.StDefine + 1}, api.ErrKind},
		{api.Statement{Kind: api.StEval}, api.ErrKind},
		{api.Statement{Kind: api.StEval, Value: api.Expr{Kind: api.ExRem + 1}}, api.ErrKind},
		{api.Statement{Kind: api.StEval, Value: api.Expr{Kind: api.ExNumber, N: -1}}, api.ErrRange},
		{api.Statement{Kind: api.StEval, Value: api.Expr{Kind: api.ExName}}, api.ErrName},
		{api.Statement{Kind: api.StEval, Value: api.Expr{Kind: api.ExAdd, Kids: []api.Expr{number}}}, api.ErrMany},
		{api.Statement{Kind: api.StEval, Value: api.Expr{Kind: api.ExText, Text: strings.Repeat("a", api.MaxText+1)}}, api.ErrMuch},
		{api.Statement{Kind: api.StMatch, Value: number}, api.ErrKind},
		{api.Statement{Kind: api.StAssign, Target: number, Value: number}, api.ErrFit},
		{api.Statement{Kind: api.StEmpty, Label: "a"}, api.ErrName},
		{api.Statement{Kind: api.StEmpty, Always: "A", Yes: "A"}, api.ErrFit},
	} {
		wantFault(t, []api.Statement{{Kind: api.StEmpty, Label: "A"}, {Kind: api.StEmpty}, c.s, {}}, c.err, 2)
	}
	wantFault(t, make([]api.Statement, api.MaxLines+1), api.ErrMany, 0)
}

// As many statements as there may be.
func TestM1MostStatements(t *testing.T) {
	l := slices.Repeat([]api.Statement{{Kind: api.StEmpty}}, api.MaxLines)
	out, starts, fault := code.Make(l)
	if fault != (api.Fault{}) || len(out) != 2*api.MaxLines+1 || len(starts) != api.MaxLines {
		t.Fatalf("%d instructions, %d beginnings, fault %v", len(out), len(starts), fault)
	}
	for i := range l {
		if starts[i] != 2*i || out[2*i] != step(i, 2*i+1) || out[2*i+1] != jump(2*i+2) {
			t.Errorf("statement %d begins at %d: %v, %v", i, starts[i], out[2*i], out[2*i+1])
		}
	}
	if out[2*api.MaxLines] != end() {
		t.Errorf("behind all: %v", out[2*api.MaxLines])
	}
}

// The body of each kind, whole.
func TestM1Bodies(t *testing.T) {
	wantCode(t, []string{" 'a' & B"}, []int{0}, step(0, 5), text("a"), read("B"), two(api.ExCat), drop(), jump(6), end())
	wantCode(t, []string{" X ? ['a']"}, []int{0}, step(0, 3), read("X"), match(0), jump(4), end())
	wantCode(t, []string{" X = Y"}, []int{0}, step(0, 4), variable("X"), read("Y"), write(), jump(5), end())
	wantCode(t, []string{" X ? ['a'] = Y"}, []int{0}, step(0, 7), variable("X"), look(), find(0), read("Y"), mend(), write(), jump(8), end())
	wantCode(t, []string{" P := ['a']"}, []int{0}, step(0, 2), rule(0), jump(3), end())
	wantCode(t, []string{""}, []int{0}, step(0, 1), jump(2), end())
	wantCode(t, []string{"L DEFINE F(A)B L"}, []int{0}, step(0, 1), jump(2), end())
	wantCode(t, []string{" F()", "L DEFINE F() L"}, []int{0, 4}, step(0, 3), call("F", 0), drop(), jump(4), step(1, 5), jump(6), end())
}

// All kinds one behind the other: each has its own number, where it is told, and begins behind the one ahead.
func TestM1Numbers(t *testing.T) {
	wantCode(t, []string{"", "L DEFINE F() L", " P := ['a']", " F()", " 'a' ? [*P]", " T<1> = 2", " X ? ['a'] = 3", " 4 ? ['a']", " $5 ? [*P] = 6", " Q := [*P]"},
		[]int{0, 2, 4, 7, 11, 15, 21, 29, 33, 42},
		step(0, 1), jump(2),
		step(1, 3), jump(4),
		step(2, 6), rule(2), jump(7),
		step(3, 10), call("F", 0), drop(), jump(11),
		step(4, 14), text("a"), match(4), jump(15),
		step(5, 20), text("1"), entry("T"), text("2"), write(), jump(21),
		step(6, 28), variable("X"), look(), find(6), text("3"), mend(), write(), jump(29),
		step(7, 32), text("4"), match(7), jump(33),
		step(8, 41), text("5"), where(), look(), find(8), text("6"), mend(), write(), jump(42),
		step(9, 44), rule(9), jump(45),
		end())
}

// What a kind does not name makes nothing, be it wrong or without an end.
func TestM1WhatAKindDoesNotName(t *testing.T) {
	endless := make([]api.Expr, 1)
	endless[0] = api.Expr{Kind: api.ExNeg, Kids: endless}
	number := api.Expr{Kind: api.ExNumber, N: 7}
	full := api.Statement{Target: endless[0], Value: endless[0], Name: "INPUT", Entry: "NOWHERE", Params: []string{"x"}, Locals: []string{""}, Pat: api.Pat{Kind: 99}}
	with := func(kind int) api.Statement {
		s := full
		s.Kind = kind
		return s
	}
	eval, matches, assign, rules, define := with(api.StEval), with(api.StMatch), with(api.StAssign), with(api.StRule), with(api.StDefine)
	eval.Value, matches.Value, assign.Value = number, number, number
	matches.Pat, rules.Pat = api.Pat{Kind: api.PatArb}, api.Pat{Kind: api.PatArb}
	assign.Target = api.Expr{Kind: api.ExName, Name: "X", Text: "text", N: 3}
	rules.Name = "P"
	define.Name, define.Entry, define.Params, define.Locals, define.Label = "F", "L", nil, nil, "L"
	wantMade(t, []api.Statement{with(api.StEmpty), eval, matches, assign, rules, define}, []int{0, 2, 6, 10, 15, 18},
		step(0, 1), jump(2),
		step(1, 5), text("7"), drop(), jump(6),
		step(2, 9), text("7"), match(2), jump(10),
		step(3, 14), variable("X"), text("7"), write(), jump(15),
		step(4, 17), rule(4), jump(18),
		step(5, 19), jump(20),
		end())
}

// What it says is wrong is what Check says, whatever it is given; where nothing is wrong, OpStep and OpEnd stand where they must.
func TestM1Frame(t *testing.T) {
	d := dice(11)
	good := 0
	for range 20000 {
		l := anyProgram(&d)
		fault := check.Check(l)
		if fault.Err != api.OK {
			wantFault(t, l, fault.Err, fault.At)
			continue
		}
		good++
		out, starts, fault := code.Make(l)
		if fault != (api.Fault{}) || len(starts) != len(l) || out[len(out)-1] != end() {
			t.Fatalf("fault %v, %v, %s", fault, starts, show(out))
		}
		for n, at := range starts {
			next := len(out) - 1
			if n+1 < len(starts) {
				next = starts[n+1]
			}
			if out[at] != step(n, next-1) {
				t.Fatalf("statement %d begins with %v; want %v", n, out[at], step(n, next-1))
			}
		}
	}
	if good < 2000 {
		t.Errorf("only %d programs were right", good)
	}
}
