package run_test

import (
	"fmt"
	"testing"

	"scanfail/api"
	"scanfail/run"
)

func TestL5NoStatements(t *testing.T) {
	for _, limit := range []int{0, 1, api.MaxSteps} {
		for _, l := range [][]api.Statement{nil, {}} {
			ran, comings, fault := run.Run(l, []string{"a"}, limit)
			if fault != (api.Fault{}) || show(ran, comings) != "end 0 [] []" {
				t.Errorf("Run of nothing, limit %d: %s, fault %v", limit, show(ran, comings), fault)
			}
		}
	}
}

// Each statement that is come to is a step; the limit is looked at when one is come to.
func TestL5LimitAtStatements(t *testing.T) {
	q := ask(" A = 1", " B = 2", " C = 3")
	wantRan(t, q.within(0), `limit 0 [0 0 0] []`)
	wantRan(t, q.within(1), `limit 1 [1 0 0] [] A="1"`)
	wantRan(t, q.within(2), `limit 2 [1 1 0] [] A="1" B="2"`)
	wantRan(t, q.within(3), `end 3 [1 1 1] [] A="1" B="2" C="3"`)
	wantRan(t, q.within(4), `end 3 [1 1 1] [] A="1" B="2" C="3"`)
	wantRan(t, ask(" A = 1 :(END)", " B = 2").within(1), `end 1 [1 0] [] A="1"`)
	wantRan(t, ask(" A = 1 :(RETURN)", " B = 2").within(1), `end 1 [1 0] [] A="1"`)
	wantRan(t, ask(" A = 1 :(FRETURN)", " B = 2").within(1), `end 1 [1 0] [] A="1"`)
	wantRan(t, ask("").within(0), `end 0 [] []`)
	wantRan(t, ask("*", "").within(0), `end 0 [] []`)
	wantRan(t, ask("", "").within(0), `limit 0 [0] []`)
	// Statements of all kinds are steps, if they fail or not.
	wantRan(t, ask("L", " P := [ARB]", " DEFINE F() L", " 1 / 0", " X = 1 / 0", "M").within(6), `end 6 [1 1 1 1 1 1] []`)
	wantRan(t, ask("L", " P := [ARB]", " DEFINE F() L", " 1 / 0", " X = 1 / 0", "M").within(5), `limit 5 [1 1 1 1 1 0] []`)
}

// Each coming to a node in a match is a step.
func TestL5LimitInMatches(t *testing.T) {
	q := ask(" 'abc' ? ['b' $ X REM . Y]", " Z = 1") // the statement; three nodes at 0; five nodes at 1
	for limit := range 12 {
		switch {
		case limit == 0:
			wantRan(t, q.within(limit), "limit 0 [0 0] []")
		case limit < 9:
			wantRan(t, q.within(limit), fmt.Sprintf("limit %d [1 0] []", limit))
		case limit == 9:
			wantRan(t, q.within(limit), `limit 9 [1 0] [] X="b" Y="c"`)
		default:
			wantRan(t, q.within(limit), `end 10 [1 1] [] X="b" Y="c" Z="1"`)
		}
	}
	wantRan(t, ask(" 'abc' ? [LEN(1)] :S(END)", " X = 1").within(2), `end 2 [1 0] []`)
	wantRan(t, ask(" 'abc' ? ['x'] :F(END)", " X = 1").within(5), `end 5 [1 0] []`)
	wantRan(t, ask(" 'abc' ? ['x'] :F(END)", " X = 1").within(4), `limit 4 [1 0] []`)
	// A match that would come to more nodes than any limit lets it.
	wantRan(t, ask(" X = DUPL('a', 200)", " X ? [ARB ARB ARB 'b']"), `limit 100000 [1 1] [] X="aa".."aa":200`)
	wantRan(t, ask(" P := [*P]", " X = 1", " 'a' ? [*P]", " Y = 2").within(50000), `limit 50000 [1 1 1 0] [] X="1"`)
}

// Steps of both kinds, all along, count together.
func TestL5StepsTogether(t *testing.T) {
	q := ask("L N = N + 1", " 'a' ? ['a'] :S(L)")
	for _, limit := range []int{99997, 99998, 99999, 100000} {
		ran, comings := answer(t, q.within(limit))
		if n := comings[0]; ran.How != api.RanLimit || ran.Steps != limit || n != (limit+2)/3 || comings[1] != (limit+1)/3 {
			t.Errorf("limit %d: %s", limit, show(ran, comings))
		}
	}
}

func TestL5Ends(t *testing.T) {
	for _, label := range []string{"END", "RETURN", "FRETURN"} {
		wantRan(t, ask(" A = 1 :("+label+")", " B = 2"), `end 1 [1 0] [] A="1"`)
		wantRan(t, ask(" A = 1 :S("+label+")", " B = 2"), `end 1 [1 0] [] A="1"`)
		wantRan(t, ask(" A = 1 :F("+label+")", " B = 2"), `end 2 [1 1] [] A="1" B="2"`)
		wantRan(t, ask(" A = 1 / 0 :F("+label+")", " B = 2"), `end 1 [1 0] []`)
		wantRan(t, ask(" A = 1 / 0 :S("+label+")", " B = 2"), `end 2 [1 1] [] B="2"`)
		wantRan(t, ask(" :("+label+")", " B = 2"), `end 1 [1 0] []`)
	}
	wantRan(t, ask(" A = 1", " B = 2"), `end 2 [1 1] [] A="1" B="2"`)
	wantRan(t, ask(" A = 1", " B = 2 / 0"), `end 2 [1 1] [] A="1"`)
	// What is behind a function's statements is behind the last one for all.
	wantRan(t, ask(" DEFINE F() F", " F()", "F :S(RETURN)"), `end 4 [1 1 2] []`)
}

func TestL5WaysOn(t *testing.T) {
	for _, c := range []struct{ on, good, bad string }{
		{"", "next", "next"},
		{" :(A)", "a", "a"},
		{" :S(A)", "a", "next"},
		{" :F(A)", "next", "a"},
		{" :S(A)F(B)", "a", "b"},
		{" :S(B)F(A)", "b", "a"},
		{" :S(A)F(A)", "a", "a"},
		{" :S(END)", "", "next"},
		{" :F(END)", "next", ""},
		{" :S(END)F(B)", "", "b"},
	} {
		for _, s := range []struct {
			line string
			good bool
		}{
			{" X = 1", true}, {" 1", true}, {" 'a' ? ['a']", true}, {" Y ? [''] = 2", true}, {"", true}, {" P := [ARB]", true}, {" DEFINE F() A", true},
			{" X = 1 / 0", false}, {" 1 / 0", false}, {" 'a' ? ['b']", false}, {" Y ? ['b'] = 2", false}, {" INPUT = 1", false},
		} {
			want := c.good
			if !s.good {
				want = c.bad
			}
			q := ask("", s.line+c.on, " OUTPUT = 'next' :(END)", "A OUTPUT = 'a' :(END)", "B OUTPUT = 'b' :(END)")
			if want == "" {
				wantTold(t, q)
			} else {
				wantTold(t, q, want)
			}
		}
	}
}

// It runs from the first statement on; ways lead back, on, and to the statement itself.
func TestL5BackAndOn(t *testing.T) {
	wantRan(t, ask("A OUTPUT = 1 :(C)", "B OUTPUT = 2 :(END)", "C OUTPUT = 3 :(B)"), `end 3 [1 1 1] ["1" "3" "2"]`)
	wantRan(t, ask("L OUTPUT = INPUT :S(L)", " OUTPUT = 'end'").in("a", "b"), `end 4 [3 1] ["a" "b" "end"]`)
	wantRan(t, ask("L LT(N, 5) :F(END)", " N = N + 1 :(L)"), `end 11 [6 5] [] N="5"`)
	wantRan(t, ask("L :(L)").within(7), `limit 7 [7] []`)
}

// Always, Yes and Noes as they may be in statements, whatever else is in them.
func TestL5WhatIsNotNamed(t *testing.T) {
	odd := api.Statement{Kind: api.StEmpty, Target: api.Expr{Kind: 99}, Value: api.Expr{Kind: -1}, Pat: api.Pat{Kind: 77}, Name: "no name", Entry: "?", Params: []string{"", ""}, Noes: "L"}
	last := api.Statement{Kind: api.StAssign, Label: "L", Target: api.Expr{Kind: api.ExName, Name: "X", Text: "t", N: -7}, Value: api.Expr{Kind: api.ExText, Text: "a", Name: "?", N: -9}, Name: "?", Pat: api.Pat{Kind: 99}}
	ran, comings, fault := run.Run([]api.Statement{odd, odd, last}, nil, 9)
	if got := show(ran, comings); fault != (api.Fault{}) || got != `end 3 [1 1 1] [] X="a"` {
		t.Errorf("Run: %s, fault %v", got, fault)
	}
}
