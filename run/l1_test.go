package run_test

import (
	"fmt"
	"math"
	"slices"
	"strings"
	"testing"

	"scanfail/api"
	"scanfail/check"
	"scanfail/run"
)

func TestL1WhatCheckSays(t *testing.T) {
	for _, c := range []struct {
		lines []string
		err   api.Errno
		at    int
	}{
		{[]string{" :(L)"}, api.ErrNone, 0},
		{[]string{"", " X = 1", " :S(L)"}, api.ErrNone, 2},
		{[]string{"L", "L"}, api.ErrName, 1},
		{[]string{" X = 1", "END"}, api.ErrName, 1},
		{[]string{" X = 1 :(END)", " F()"}, api.ErrName, 1},
		{[]string{" X = 1 :(END)", " SIZE()"}, api.ErrMany, 1},
		{[]string{"L DEFINE F(A) L", " F(1, 2)"}, api.ErrMany, 1},
		{[]string{"L DEFINE F(INPUT) L"}, api.ErrName, 0},
		{[]string{"L DEFINE SIZE() L"}, api.ErrName, 0},
	} {
		l := program(t, c.lines...)
		if said := check.Check(l); said != (api.Fault{Err: c.err, At: c.at}) {
			t.Errorf("Check of %q: fault %v", c.lines, said)
		}
		wantFault(t, l, nil, 5, c.err, c.at)
	}
	wantFault(t, []api.Statement{{}}, nil, 5, api.ErrKind, 0)
	wantFault(t, []api.Statement{{Kind: api.StEmpty}, {Kind: api.StEmpty, Always: "a"}}, nil, 5, api.ErrName, 1)
	wantFault(t, []api.Statement{{Kind: api.StEval, Value: api.Expr{Kind: api.ExNumber, N: -1}}}, nil, 5, api.ErrRange, 0)
	wantFault(t, slices.Repeat([]api.Statement{{Kind: api.StEmpty}}, api.MaxLines+1), nil, 5, api.ErrMany, 0)
	ran, comings, fault := run.Run(slices.Repeat([]api.Statement{{Kind: api.StEmpty}}, api.MaxLines), nil, api.MaxLines)
	if want := slices.Repeat([]int{1}, api.MaxLines); fault != (api.Fault{}) || ran.How != api.RanEnd || ran.Steps != api.MaxLines || !slices.Equal(comings, want) {
		t.Errorf("Run of MaxLines statements: %s, fault %v", show(ran, comings), fault)
	}
}

func TestL1InputLines(t *testing.T) {
	l := program(t, "L N = N + SIZE(INPUT) :S(L)", " OUTPUT = N")
	ran, _, fault := run.Run(l, slices.Repeat([]string{"a"}, api.MaxInput), api.MaxSteps)
	if fault != (api.Fault{}) || !slices.Equal(ran.Output, []string{"1000"}) {
		t.Errorf("Run with MaxInput lines: %v, fault %v", ran, fault)
	}
	for _, n := range []int{api.MaxInput + 1, api.MaxInput + 2, 5000} {
		wantFault(t, l, slices.Repeat([]string{"a"}, n), api.MaxSteps, api.ErrMany, 0)
		wantFault(t, l, make([]string, n), 5, api.ErrMany, 0)
		wantFault(t, nil, make([]string, n), 0, api.ErrMany, 0)
	}
}

func TestL1InputTexts(t *testing.T) {
	full, over := strings.Repeat("a", api.MaxText), strings.Repeat("a", api.MaxText+1)
	wantRan(t, ask(" X = INPUT", " OUTPUT = INPUT").in(full, full), `end 2 [1 1] ["aa".."aa":65536] X="aa".."aa":65536`)
	for _, c := range []struct {
		input []string
		at    int
	}{
		{[]string{over}, 0},
		{[]string{over + over}, 0},
		{[]string{"", over}, 1},
		{[]string{full, full, over, full}, 2},
		{[]string{"a", over, over, over}, 1},
		{[]string{"a", over + "b", over}, 1},
		{append(make([]string, api.MaxInput-1), over), api.MaxInput - 1},
	} {
		wantFault(t, nil, c.input, 5, api.ErrMuch, c.at)
		wantFault(t, program(t, " X = 1 :(END)", " X = INPUT"), c.input, 5, api.ErrMuch, c.at)
	}
}

func TestL1Limit(t *testing.T) {
	l := program(t, "L :(L)")
	for _, limit := range []int{math.MinInt, -api.MaxSteps, -2, -1, api.MaxSteps + 1, api.MaxSteps + 2, math.MaxInt} {
		wantFault(t, l, nil, limit, api.ErrRange, 0)
		wantFault(t, nil, []string{"a"}, limit, api.ErrRange, 0)
	}
	for _, limit := range []int{0, 1, 2, api.MaxSteps - 1, api.MaxSteps} {
		wantRan(t, ask("L :(L)").within(limit), fmt.Sprintf("limit %d [%d] []", limit, limit))
	}
}

// Whatever else is wrong, the first error is told.
func TestL1Order(t *testing.T) {
	over := strings.Repeat("a", api.MaxText+1)
	for mask := 1; mask < 16; mask++ {
		l, input, limit := program(t, " X = 1"), []string{"a"}, 5
		if mask&1 > 0 {
			l = program(t, "", " :(L)")
		}
		if mask&2 > 0 {
			input = make([]string, api.MaxInput+1)
		}
		if mask&4 > 0 {
			input[0] = over
		}
		if mask&8 > 0 {
			limit = -1
		}
		switch {
		case mask&1 > 0:
			wantFault(t, l, input, limit, api.ErrNone, 1)
		case mask&2 > 0:
			wantFault(t, l, input, limit, api.ErrMany, 0)
		case mask&4 > 0:
			wantFault(t, l, input, limit, api.ErrMuch, 0)
		default:
			wantFault(t, l, input, limit, api.ErrRange, 0)
		}
	}
}

func TestL1Variables(t *testing.T) {
	wantRan(t, ask(" Z9 = 1", " B = 2", " A = 3", " AA = 4", " A1 = 5", " Z = 6"), `end 6 [1 1 1 1 1 1] [] A="3" A1="5" AA="4" B="2" Z="6" Z9="1"`)
	wantRan(t, ask(" A = 1", " B = 2", " C = 3", " B = ''", " D = ''"), `end 5 [1 1 1 1 1] [] A="1" C="3"`)
	wantRan(t, ask(" A = 1", " A = 'x'", " A = A & A"), `end 3 [1 1 1] [] A="xx"`)
	wantRan(t, ask(" OUTPUT = 1", " X = OUTPUT", " Y = INPUT").in("a", "b"), `end 3 [1 1 1] ["1"] Y="a"`)
	wantRan(t, ask(" A = ' '", " B = ''' '", " C = 0"), `end 3 [1 1 1] [] A=" " B="' " C="0"`)
}

func TestL1Items(t *testing.T) {
	wantRan(t, ask(" T<2> = 'a'", " T<'a'> = 'b'", " T<10> = 'c'", " T<''> = 'd'", " T<1> = 'e'", " S<9> = 'f'", " T1<0> = 'g'", " T<'A'> = 'h'"),
		`end 8 [1 1 1 1 1 1 1 1] [] S<"9">="f" T<"">="d" T<"1">="e" T<"10">="c" T<"2">="a" T<"A">="h" T<"a">="b" T1<"0">="g"`)
	wantRan(t, ask(" T<1> = 'a'", " T<2> = 'b'", " T<1> = ''", " T<3> = ''"), `end 4 [1 1 1 1] [] T<"2">="b"`)
	// A variable and the items of its name have nothing to do with one another, be a key empty or not.
	wantRan(t, ask(" T = 'a'", " T<''> = 'b'", " T<T> = 'c'", " T = ''"), `end 4 [1 1 1 1] [] T<"">="b" T<"a">="c"`)
	wantRan(t, ask(" T<''> = 'b'", " T = 'a'", " T<''> = ''"), `end 3 [1 1 1] [] T="a"`)
	// Keys are texts: those of one number are many.
	wantRan(t, ask(" T<1> = 'a'", " T<'01'> = 'b'", " T<'+1'> = 'c'", " T<' 1'> = 'd'"), `end 4 [1 1 1 1] [] T<" 1">="d" T<"+1">="c" T<"01">="b" T<"1">="a"`)
}

// Names and keys rise byte by byte, whatever bytes they are.
func TestL1Rising(t *testing.T) {
	var input, lines []string
	d := dice(3)
	for range 200 {
		key := make([]byte, d.below(4))
		for i := range key {
			key[i] = byte(d.below(256))
		}
		input = append(input, string(key))
	}
	lines = append(lines, "L K = INPUT :F(M)", " T<K> = 1", " "+pick(&d, "T1", "S", "A")+"<K> = 1 :(L)", "M N = N + 1", " $('V' & N * N) = 1", " LT(N, 40) :S(M)")
	ran, _ := answer(t, ask(lines...).in(input...))
	if len(ran.Items) < 250 || !slices.IsSortedFunc(ran.Items, func(a, b api.Item) int {
		if a.Name == b.Name {
			return strings.Compare(a.Key, b.Key)
		}
		return strings.Compare(a.Name, b.Name)
	}) {
		t.Errorf("items do not rise: %v", ran.Items)
	}
	if len(ran.Vars) < 41 || !slices.IsSortedFunc(ran.Vars, func(a, b api.Gift) int { return strings.Compare(a.Name, b.Name) }) {
		t.Errorf("variables do not rise: %v", ran.Vars)
	}
}

func TestL1Comings(t *testing.T) {
	wantRan(t, ask(" :(C)", "A", "B :(END)", "C N = N + 1", " LT(N, 3) :S(C)F(B)"), `end 8 [1 0 1 3 3] [] N="3"`)
	wantRan(t, ask(" DEFINE F(N) F", " F(3) :(END)", "F GT(N, 0) :F(RETURN)", " F(N - 1) & F(N - 1) :(RETURN)"), "end 24 [1 1 15 7] []")
	wantRan(t, ask(" X = 1 / 0", " X = 1", " X ? ['2']"), `end 5 [1 1 1] [] X="1"`)
}
