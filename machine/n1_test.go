package machine_test

import (
	"fmt"
	"math"
	"slices"
	"strings"
	"testing"

	"scanfail/api"
	"scanfail/machine"
)

func TestN1WhatCheckSays(t *testing.T) {
	for _, c := range []struct {
		lines []string
		err   api.Errno
		at    int
	}{
		{[]string{" :(L)"}, api.ErrNone, 0},
		{[]string{"", " X = 1", " :S(L)"}, api.ErrNone, 2},
		{[]string{" X = 1", " DEFINE F() L"}, api.ErrNone, 1},
		{[]string{"L", "L"}, api.ErrName, 1},
		{[]string{" X = 1", "END"}, api.ErrName, 1},
		{[]string{" X = 1 :(END)", " F()"}, api.ErrName, 1},
		{[]string{" X = 1 :(END)", " SIZE()"}, api.ErrMany, 1},
		{[]string{"L DEFINE F(A) L", " F(1, 2)"}, api.ErrMany, 1},
		{[]string{"L DEFINE F(INPUT) L"}, api.ErrName, 0},
		{[]string{"L DEFINE SIZE() L"}, api.ErrName, 0},
	} {
		wantFault(t, program(t, c.lines...), nil, 5, c.err, c.at)
	}
	wantFault(t, []api.Statement{{}}, nil, 5, api.ErrKind, 0)
	wantFault(t, []api.Statement{{Kind: api.StEmpty}, {Kind: api.StEmpty, Always: "a"}}, nil, 5, api.ErrName, 1)
	wantFault(t, []api.Statement{{Kind: api.StEval, Value: api.Expr{Kind: api.ExNumber, N: -1}}}, nil, 5, api.ErrRange, 0)
	wantFault(t, []api.Statement{{Kind: api.StEmpty}, {Kind: api.StEmpty}, {Kind: api.StEmpty, Always: "END", Yes: "END"}}, nil, 5, api.ErrFit, 2)
	wantFault(t, slices.Repeat([]api.Statement{{Kind: api.StEmpty}}, api.MaxLines+1), nil, 5, api.ErrMany, 0)
	ran, comings, fault := machine.Run(slices.Repeat([]api.Statement{{Kind: api.StEmpty}}, api.MaxLines), nil, api.MaxLines)
	if want := slices.Repeat([]int{1}, api.MaxLines); fault != (api.Fault{}) || ran.How != api.RanEnd || ran.Steps != api.MaxLines || !slices.Equal(comings, want) {
		t.Errorf("Run of MaxLines statements: %s, fault %v", show(ran, comings), fault)
	}
}

func TestN1WrongInput(t *testing.T) {
	l := program(t, "L N = N + SIZE(INPUT) :S(L)", " OUTPUT = N")
	ran, _, fault := machine.Run(l, slices.Repeat([]string{"a"}, api.MaxInput), api.MaxSteps)
	if fault != (api.Fault{}) || !slices.Equal(ran.Output, []string{"1000"}) {
		t.Errorf("Run with MaxInput lines: %v, fault %v", ran, fault)
	}
	for _, n := range []int{api.MaxInput + 1, api.MaxInput + 2, 5000} {
		wantFault(t, l, slices.Repeat([]string{"a"}, n), api.MaxSteps, api.ErrMany, 0)
		wantFault(t, nil, make([]string, n), 0, api.ErrMany, 0)
	}
	full, over := strings.Repeat("a", api.MaxText), strings.Repeat("a", api.MaxText+1)
	wantRan(t, ask(" X = INPUT", " OUTPUT = INPUT").in(full, full), `end 2 [1 1] ["aa".."aa":65536] X="aa".."aa":65536`)
	for _, c := range []struct {
		input []string
		at    int
	}{
		{[]string{over}, 0},
		{[]string{"", over}, 1},
		{[]string{full, full, over, full, over}, 2},
		{append(make([]string, api.MaxInput-1), over), api.MaxInput - 1},
	} {
		wantFault(t, nil, c.input, 5, api.ErrMuch, c.at)
		wantFault(t, l, c.input, 0, api.ErrMuch, c.at)
	}
}

func TestN1WrongLimit(t *testing.T) {
	l := program(t, "L :(L)")
	for _, limit := range []int{math.MinInt, -api.MaxSteps, -2, -1, api.MaxSteps + 1, api.MaxSteps + 2, math.MaxInt} {
		wantFault(t, l, nil, limit, api.ErrRange, 0)
		wantFault(t, nil, []string{"a"}, limit, api.ErrRange, 0)
	}
	for _, limit := range []int{0, 1, 2, api.MaxSteps - 1, api.MaxSteps} {
		wantRan(t, ask("L :(L)").within(limit), fmt.Sprintf("limit %d [%d] []", limit, limit))
	}
}

// Whatever else is wrong, the first error is told.
func TestN1WrongOrder(t *testing.T) {
	over := strings.Repeat("a", api.MaxText+1)
	for mask := 1; mask < 16; mask++ {
		l, input, limit := program(t, " X = 1"), []string{"a"}, 5
		if mask&1 > 0 {
			l = program(t, "", " :(L)")
		}
		if mask&2 > 0 {
			input = make([]string, api.MaxInput+1)
		}
		if mask&4 > 0 {
			input[0] = over
		}
		if mask&8 > 0 {
			limit = -1
		}
		switch {
		case mask&1 > 0:
			wantFault(t, l, input, limit, api.ErrNone, 1)
		case mask&2 > 0:
			wantFault(t, l, input, limit, api.ErrMany, 0)
		case mask&4 > 0:
			wantFault(t, l, input, limit, api.ErrMuch, 0)
		default:
			wantFault(t, l, input, limit, api.ErrRange, 0)
		}
	}
}

func TestN1NoStatements(t *testing.T) {
	for _, limit := range []int{0, 1, api.MaxSteps} {
		for _, l := range [][]api.Statement{nil, {}} {
			ran, comings, fault := machine.Run(l, []string{"a"}, limit)
			if fault != (api.Fault{}) || show(ran, comings) != "end 0 [] []" {
				t.Errorf("Run of nothing, limit %d: %s, fault %v", limit, show(ran, comings), fault)
			}
		}
	}
}

// At END, at RETURN and FRETURN outside of all calls, and behind the last statement.
func TestN1Ends(t *testing.T) {
	for _, label := range []string{"END", "RETURN", "FRETURN"} {
		wantRan(t, ask(" A = 1 :("+label+")", " B = 2"), `end 1 [1 0] [] A="1"`)
		wantRan(t, ask(" A = 1 :S("+label+")", " B = 2"), `end 1 [1 0] [] A="1"`)
		wantRan(t, ask(" A = 1 :F("+label+")", " B = 2"), `end 2 [1 1] [] A="1" B="2"`)
		wantRan(t, ask(" A = 1 / 0 :F("+label+")", " B = 2"), `end 1 [1 0] []`)
		wantRan(t, ask(" A = 1 / 0 :S("+label+")", " B = 2"), `end 2 [1 1] [] B="2"`)
		wantRan(t, ask(" A = 1 / 0 :S("+label+")F("+label+")", " B = 2"), `end 1 [1 0] []`)
		wantRan(t, ask(" :("+label+")", " B = 2"), `end 1 [1 0] []`)
		// Behind calls that have come back it is outside of all calls, too.
		wantRan(t, ask(" DEFINE F(A) F", " X = F('a') & F('b') :S("+label+")", " Y = 1", "F F = A & A :(RETURN)"), `end 4 [1 1 0 2] [] X="aabb"`)
		wantRan(t, ask(" DEFINE F(A) F", " X = 'x' & F('b') :F("+label+")", " Y = 1", "F F = A & A :(FRETURN)"), `end 3 [1 1 0 1] []`)
	}
	wantRan(t, ask(" A = 1", " B = 2"), `end 2 [1 1] [] A="1" B="2"`)
	wantRan(t, ask(" A = 1", " B = 2 / 0"), `end 2 [1 1] [] A="1"`)
}

// Within a call the run ends likewise, and nothing comes back.
func TestN1EndsWithinCalls(t *testing.T) {
	for _, last := range []string{" :(END)", " 1 / 0 :F(END)", " 1 :S(END)", ""} {
		wantRan(t, ask(" DEFINE F(A)B F", " A = 'a'", " B = 'b'", " F = 'f'", " X<'k'> = 'x' & F(1) & F(2)", " OUTPUT = 'never'", "F B = 2", " F = 3", last, "* a remark"),
			`end 8 [1 1 1 1 1 0 1 1 1] [] A="1" B="2" F="3"`)
	}
	wantRan(t, ask(" DEFINE F(A) F", " DEFINE G(A) G", " X = F(1) :F(NO)", " OUTPUT = 'never'", "NO OUTPUT = 'never'", "F F = G(2) :S(NO)F(NO)", "G A = 3 :(END)"), `end 5 [1 1 1 0 0 1 1] [] A="3"`)
	wantRan(t, ask(" DEFINE F() F", " X = 'a'", " X ? ['a' $ Y] = F()", "F"), `end 6 [1 1 1 1] [] X="a" Y="a"`)
	wantRan(t, ask(" DEFINE F() F", " X<F()> ? ['' $ Y] = 1", " OUTPUT = 'never'", "F OUTPUT = 'last'"), `end 3 [1 1 0 1] ["last"]`)
}

// Each limit from none to where the run has ended.
func TestN1EachLimit(t *testing.T) {
	q := ask(" DEFINE F(A) F", " A = 'a'", " X = F(1) & '.' :F(NO)", " OUTPUT = X", "NO X ? ['.' . Y] = '!' :(END)", "F F = 2", " F = 3 :(RETURN)")
	for limit, want := range []string{
		`limit 0 [0 0 0 0 0 0 0] []`,
		`limit 1 [1 0 0 0 0 0 0] []`,
		`limit 2 [1 1 0 0 0 0 0] [] A="a"`,
		`limit 3 [1 1 1 0 0 0 0] [] A="1"`,
		`limit 4 [1 1 1 0 0 1 0] [] A="1" F="2"`,
		`limit 5 [1 1 1 0 0 1 1] [] A="a" X="3."`,
		`limit 6 [1 1 1 1 0 1 1] ["3."] A="a" X="3."`,
		`limit 7 [1 1 1 1 1 1 1] ["3."] A="a" X="3."`,
		`limit 8 [1 1 1 1 1 1 1] ["3."] A="a" X="3."`,
		`limit 9 [1 1 1 1 1 1 1] ["3."] A="a" X="3."`,
		`limit 10 [1 1 1 1 1 1 1] ["3."] A="a" X="3."`,
		`end 11 [1 1 1 1 1 1 1] ["3."] A="a" X="3!" Y="."`,
		`end 11 [1 1 1 1 1 1 1] ["3."] A="a" X="3!" Y="."`,
	} {
		wantRan(t, q.within(limit), want)
	}
	wantRan(t, ask(" A = 1 :(END)", " B = 2").within(1), `end 1 [1 0] [] A="1"`)
	wantRan(t, ask(" A = 1 :(RETURN)", " B = 2").within(1), `end 1 [1 0] [] A="1"`)
	wantRan(t, ask(" A = 1 :(FRETURN)", " B = 2").within(1), `end 1 [1 0] [] A="1"`)
	wantRan(t, ask(" 'abc' ? [LEN(1)] :S(END)", " X = 1").within(2), `end 2 [1 0] []`)
	wantRan(t, ask(" 'abc' ? ['x'] :F(END)", " X = 1").within(5), `end 5 [1 0] []`)
	wantRan(t, ask(" 'abc' ? ['x'] :F(END)", " X = 1").within(4), `limit 4 [1 0] []`)
	wantRan(t, ask(" X = DUPL('a', 200)", " X ? [ARB ARB ARB 'b'] = X"), `limit 100000 [1 1] [] X="aa".."aa":200`)
	wantRan(t, ask(" X = 'aaaa'", " X ? [LEN(1) $ OUTPUT ARB ARB ARB 'b'] = INPUT :S(END)", " Y = 1").in("a").within(50), `limit 50 [1 1 0] [] X="aaaa"`)
}

// keeping are lines that keep MaxStore bytes in the variables A0 to A15.
func keeping() []string {
	var out []string
	for i := range 16 {
		out = append(out, fmt.Sprintf(" A%d = DUPL('a', 65536)", i))
	}
	return out
}

// wantFull: behind keeping, by which MaxStore bytes are kept, the run ends so within so many steps more; these variables have so much of a byte, all others of A0 to A15 what they had.
func wantFull(t *testing.T, lines []string, how, steps int, other string) {
	t.Helper()
	l := program(t, slices.Concat(keeping(), lines)...)
	ran := asRun(t, l, nil, api.MaxSteps)
	asModel(t, l, nil, api.MaxSteps)
	var got []string
	for _, g := range ran.Vars {
		if g.Text != strings.Repeat("a", 65536) || g.Name[0] != 'A' {
			got = append(got, fmt.Sprintf("%s=%c%d", g.Name, g.Text[0], len(g.Text)))
		}
	}
	for i := range 16 {
		name := fmt.Sprint("A", i)
		if !slices.ContainsFunc(ran.Vars, func(g api.Gift) bool { return g.Name == name }) {
			got = append(got, name+"=")
		}
	}
	slices.Sort(got)
	if s := strings.Join(got, " "); ran.How != how || ran.Steps != 16+steps || s != other || len(ran.Output) > 0 || len(ran.Items) > 0 {
		t.Errorf("%q: %s, other %q; want how %d, %d steps more, other %q", lines, show(ran, nil), s, how, steps, other)
	}
}

// Where more would be kept than may be the run ends, and nothing else is done.
func TestN1EndsAsMuchIsKept(t *testing.T) {
	never := "NO OUTPUT = 'never'"
	wantFull(t, []string{" A3 = A4", " B = ''", " T<'k'> = ''"}, api.RanEnd, 3, "")
	wantFull(t, []string{" B = 'b' :S(NO)F(NO)", never}, api.RanMuch, 1, "")
	wantFull(t, []string{" $'B' = 'b' :S(NO)F(NO)", never}, api.RanMuch, 1, "")
	wantFull(t, []string{" T<'k'> = 'b' :(NO)", never}, api.RanMuch, 1, "")
	wantFull(t, []string{" A3 = DUPL('c', 65535)", " T<'k'> = 'b' :(NO)", never}, api.RanMuch, 2, "A3=c65535")
	wantFull(t, []string{" A3 = 'c'", " B = DUPL('b', 65534)", " A3 ? ['c'] = 'ddd' :S(NO)F(NO)", never}, api.RanMuch, 4, "A3=c1 B=b65534")
	wantFull(t, []string{" 'abc' ? [LEN(0) . B LEN(1) . C LEN(1) $ D] :S(NO)F(NO)", never}, api.RanMuch, 8, "")
	wantFull(t, []string{" A3 = DUPL('c', 65535)", " 'abc' ? [LEN(1) . B LEN(1) . C LEN(0) . A3] :S(NO)F(NO)", never}, api.RanMuch, 9, "A3=c65535 B=a1")
	// In a call: ahead of it, within it, and where what was put aside comes back, at RETURN and at FRETURN.
	wantFull(t, []string{" DEFINE F(B)A0 F", " OUTPUT = F('b') :F(NO)", never, "F OUTPUT = 'never' :(RETURN)"}, api.RanMuch, 2, "")
	wantFull(t, []string{" DEFINE F(A0,B)A1 F", " OUTPUT = F('', 'b') :S(NO)F(END)", never, "F B = '' :(FRETURN)"}, api.RanEnd, 3, "")
	wantFull(t, []string{" DEFINE F(A0) F", " OUTPUT = F() :S(NO)F(NO)", never, "F B = A1", " C = 'c' :(RETURN)"}, api.RanMuch, 4, "A0= B=a65536")
	for _, how := range []string{"RETURN", "FRETURN"} {
		wantFull(t, []string{" DEFINE F(A0) F", " OUTPUT = 'x' & F('y') :S(NO)F(NO)", never, "F B = 'b' :(" + how + ")"}, api.RanMuch, 3, "A0=y1 B=b1")
		wantFull(t, []string{" DEFINE F(A0)A1 F", " OUTPUT = 'x' & F('y') :S(NO)F(NO)", never, "F B = DUPL('b', 65535) :(" + how + ")"}, api.RanMuch, 3, "A1= B=b65535")
		wantFull(t, []string{" DEFINE F(A0) F", " DEFINE G(A1) G", " T<G()> = OUTPUT :S(NO)F(NO)", never, "F B = DUPL('b', 65535)", " C = 'cc' :(" + how + ")", "G F() :S(NO)F(NO)"}, api.RanMuch, 6, "A0= A1= B=b65535 C=c2")
	}
}

// Where more would be told than may be, too.
func TestN1EndsAsMuchIsTold(t *testing.T) {
	tell := slices.Concat([]string{" X = DUPL('a', 65535)"}, slices.Repeat([]string{" OUTPUT = X"}, 16))
	for _, c := range []struct {
		lines []string
		how   int
		steps int
	}{
		{nil, api.RanEnd, 0},
		{[]string{" OUTPUT = '' :S(NO)F(NO)", "NO Y = 'never'"}, api.RanMuch, 1},
		{[]string{" 'abc' ? [LEN(1) $ OUTPUT FAIL] :S(NO)F(NO)", "NO Y = 'never'"}, api.RanMuch, 16},
		{[]string{" 'abc' ? [LEN(1) . OUTPUT LEN(1) . Y] :S(NO)F(NO)", "NO Y = 'never'"}, api.RanMuch, 6},
		{[]string{" DEFINE F(Y) F", " $F('y') = 'x' :S(NO)F(NO)", "NO X = 'never'", "F OUTPUT ? [''] = '' :S(NO)F(NO)"}, api.RanMuch, 4},
		{[]string{" X = OUTPUT"}, api.RanEnd, 1},
	} {
		l := program(t, slices.Concat(tell, c.lines)...)
		ran := asRun(t, l, nil, api.MaxSteps)
		if ran.How != c.how || ran.Steps != 17+c.steps || len(ran.Output) != 16 || slices.ContainsFunc(ran.Vars, func(g api.Gift) bool { return g.Text == "never" }) {
			t.Errorf("%q: %s", c.lines, show(ran, nil))
		}
	}
}

func TestN1WaysOn(t *testing.T) {
	for _, c := range []struct{ on, good, bad string }{
		{"", "next", "next"},
		{" :(A)", "a", "a"},
		{" :S(A)", "a", "next"},
		{" :F(A)", "next", "a"},
		{" :S(A)F(B)", "a", "b"},
		{" :S(B)F(A)", "b", "a"},
		{" :S(A)F(A)", "a", "a"},
		{" :S(END)", "", "next"},
		{" :F(END)", "next", ""},
		{" :S(END)F(B)", "", "b"},
		{" :S(B)F(END)", "b", ""},
		{" :S(END)F(END)", "", ""},
		{" :S(RETURN)F(A)", "", "a"},
		{" :S(A)F(FRETURN)", "a", ""},
		{" :(RETURN)", "", ""},
		{" :(BACK)", "back", "back"},
		{" :S(BACK)", "back", "next"},
		{" :F(BACK)", "next", "back"},
	} {
		for _, s := range []struct {
			line string
			good bool
		}{
			{" X = 1", true}, {" 1", true}, {" 'a' ? ['a']", true}, {" Y ? [''] = 2", true}, {"", true}, {" P := [ARB]", true}, {" DEFINE F() A", true},
			{" X = 1 / 0", false}, {" 1 / 0", false}, {" 'a' ? ['b']", false}, {" Y ? ['b'] = 2", false}, {" INPUT = 1", false},
		} {
			want := c.good
			if !s.good {
				want = c.bad
			}
			q := ask(" :(GO)", "BACK OUTPUT = 'back' :(END)", "GO", s.line+c.on, " OUTPUT = 'next' :(END)", "A OUTPUT = 'a' :(END)", "B OUTPUT = 'b' :(END)")
			if want == "" {
				wantTold(t, q)
			} else {
				wantTold(t, q, want)
			}
		}
	}
}

// It runs from the first statement on; ways lead back, on, and to the statement itself.
func TestN1BackAndOn(t *testing.T) {
	wantRan(t, ask("A OUTPUT = 1 :(C)", "B OUTPUT = 2 :(END)", "C OUTPUT = 3 :(B)"), `end 3 [1 1 1] ["1" "3" "2"]`)
	wantRan(t, ask("L OUTPUT = INPUT :S(L)", " OUTPUT = 'end'").in("a", "b"), `end 4 [3 1] ["a" "b" "end"]`)
	wantRan(t, ask("L LT(N, 5) :F(END)", " N = N + 1 :(L)"), `end 11 [6 5] [] N="5"`)
	wantRan(t, ask("L :(L)").within(7), `limit 7 [7] []`)
	wantRan(t, ask("L 1 / 0 :F(L)").within(7), `limit 7 [7] []`)
}

func TestN1Comings(t *testing.T) {
	wantRan(t, ask(" :(C)", "A", "B :(END)", "C N = N + 1", " LT(N, 3) :S(C)F(B)"), `end 8 [1 0 1 3 3] [] N="3"`)
	wantRan(t, ask(" DEFINE F(N) F", " F(3) :(END)", "F GT(N, 0) :F(RETURN)", " F(N - 1) & F(N - 1) :(RETURN)"), "end 24 [1 1 15 7] []")
	wantRan(t, ask(" X = 1 / 0", " X = 1", " X ? ['2']"), `end 5 [1 1 1] [] X="1"`)
	// One at which the limit ends the run is not come to; one within which it does is.
	wantRan(t, ask(" X = 1", " 'a' ? ['b']", " Y = 1").within(1), `limit 1 [1 0 0] [] X="1"`)
	wantRan(t, ask(" X = 1", " 'a' ? ['b']", " Y = 1").within(3), `limit 3 [1 1 0] [] X="1"`)
	wantRan(t, ask(" X = 1", " 'a' ? ['b']", " Y = 1").within(4), `limit 4 [1 1 0] [] X="1"`)
}

// Names and keys rise byte by byte; what has nothing is not told.
func TestN1WhatIsKeptInTheEnd(t *testing.T) {
	wantRan(t, ask(" Z9 = 1", " B = 2", " A = 3", " AA = 4", " A1 = 5", " B = ''"), `end 6 [1 1 1 1 1 1] [] A="3" A1="5" AA="4" Z9="1"`)
	wantRan(t, ask(" T<2> = 'a'", " T<'a'> = 'b'", " T<10> = 'c'", " T<''> = 'd'", " S<9> = 'f'", " T1<0> = 'g'", " T = 'h'", " S<8> = ''"),
		`end 8 [1 1 1 1 1 1 1 1] [] T="h" S<"9">="f" T<"">="d" T<"10">="c" T<"2">="a" T<"a">="b" T1<"0">="g"`)
	wantRan(t, ask(" OUTPUT = 1", " X = OUTPUT", " Y = INPUT").in("a", "b"), `end 3 [1 1 1] ["1"] Y="a"`)
}
