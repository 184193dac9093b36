package jobs_test

import (
	"fmt"
	"math"
	"slices"
	"strings"
	"testing"

	"scanfail/api"
	"scanfail/jobs"
	"scanfail/library"
	"scanfail/machine"
	"scanfail/syntax"
)

func TestR1WhatCameOfIt(t *testing.T) {
	wantOne(t, job(" OUTPUT = 'a' & 2 + 3"), `end 1 "a5"`)
	wantOne(t, job(" OUTPUT = 1 + 1"), `end 1 "2"`)
	wantOne(t, ready(t, "roman", "1994", "x", "7"), `end 554 "MCMXCIV" "VII" X="7"`)
	wantOne(t, job("* a remark", " B = 'b'", " A = B & B", " T<2> = A", " S<9> = 1", " T<10> = ''", " T<1> = 'x'"), `end 6 A="bb" B="b" S<"9">="1" T<"1">="x" T<"2">="bb"`)
	wantOne(t, with(job("L OUTPUT = INPUT :S(L)", " OUTPUT = 'end'"), "b", "", "a"), `end 5 "b" "" "a" "end"`)
	wantOne(t, job(" X = 1 / 0 :S(END)", " 'abc' ? [LEN(1) . X 'b' @Y] :F(END)", " OUTPUT = X & Y"), `end 8 "a2" X="a" Y="2"`)
}

// A job that is all noughts is a program without statements, which comes to its end at once.
func TestR1Nothing(t *testing.T) {
	wantOne(t, api.Job{}, "end 0")
	wantOne(t, api.Job{Text: "* a remark\n"}, "end 0")
	wantOne(t, api.Job{Input: []string{"", "a"}, Limit: 9}, "end 0")
	wantOne(t, api.Job{Text: "\n"}, "limit 0")
	wantOne(t, api.Job{Text: "\n", Limit: 1}, "end 1")
	wantOne(t, api.Job{Text: " OUTPUT = 1", Limit: 9}, `end 1 "1"`)
}

func TestR1HowItEnds(t *testing.T) {
	loop := job("L N = N + 1 :(L)")
	for _, limit := range []int{1, 2, 9, 1000, api.MaxSteps - 1, api.MaxSteps} {
		wantOne(t, within(loop, limit), fmt.Sprintf(`limit %d N="%d"`, limit, limit))
	}
	wantOne(t, within(loop, 0), "limit 0")
	wantOne(t, within(job(" 'aaaa' ? [ARB 'b']"), 10), "limit 10")
	d := jobs.One(job(" X = DUPL('a', 65535)", "L OUTPUT = X", " N = N + 1 :(L)"))
	if d.Fault != (api.Fault{}) || d.Ran.How != api.RanMuch || d.Ran.Steps != 34 || len(d.Ran.Output) != 16 {
		t.Errorf("more than MaxStore told: %d lines, %s", len(d.Ran.Output), brief(show(d)))
	}
}

// Read's fault is told at the line's number; remarks count.
func TestR1ReadsFault(t *testing.T) {
	for _, c := range []struct {
		text string
		err  api.Errno
		at   int
	}{
		{" X =", api.ErrForm, 0},
		{" X = 1\n X =\n Y =\n", api.ErrForm, 1},
		{"* a remark\n\n X = 01\n", api.ErrForm, 2},
		{" X = 'a\n", api.ErrForm, 0},
		{" X = 1\r\n", api.ErrForm, 0},
		{" X = 1 ; Y = 2\n", api.ErrForm, 0},
		{"\n 'a' ? [LEN(65537)]\n", api.ErrRange, 1},
		{"\n\n X = 9223372036854775808", api.ErrRange, 2},
		{" F(X) = 1\n", api.ErrFit, 0},
		{"\nABCDEFGHIJKLMNOPQ = 1\n", api.ErrName, 1},
		{"\n\n\n X = F(1, 2, 3, 4, 5, 6, 7, 8, 9)\n", api.ErrMany, 3},
		{"\n " + strings.Repeat("A", api.MaxLine) + "\n", api.ErrMuch, 1},
		{" X =\n" + strings.Repeat("\n", api.MaxLines), api.ErrMany, 0},
		{strings.Repeat("\n", api.MaxLines+1), api.ErrMany, 0},
		{strings.Repeat("*\n", api.MaxLines+1), api.ErrMany, 0},
		{" X =\n" + strings.Repeat("*", api.MaxText), api.ErrMuch, 0},
		{strings.Repeat("*", api.MaxText+1), api.ErrMuch, 0},
		{strings.Repeat("\n", api.MaxText+1), api.ErrMuch, 0},
		{strings.Repeat("a", 1<<20), api.ErrMuch, 0},
	} {
		if _, said := syntax.Read(c.text); said != (api.Fault{Err: c.err, At: c.at}) {
			t.Errorf("Read of %s: fault %v", brief(c.text), said)
		}
		wantWrong(t, api.Job{Text: c.text, Limit: 9}, c.err, c.at)
	}
}

// Run's fault is told at the statement's number; remarks do not count.
func TestR1RunsFault(t *testing.T) {
	for _, c := range []struct {
		text string
		err  api.Errno
		at   int
	}{
		{":(L)", api.ErrNone, 0},
		{"* a remark\n\n :S(L)\n", api.ErrNone, 1},
		{"L\n* a remark\n* another one\nL\n", api.ErrName, 1},
		{" X = 1\nEND\n", api.ErrName, 1},
		{" X = 1\n\n F()\n", api.ErrName, 2},
		{" X = SIZE()\n", api.ErrMany, 0},
		{"L DEFINE F(A) L\n*\n F(1, 2)\n", api.ErrMany, 1},
		{"L DEFINE F(A,A) L\n", api.ErrName, 0},
		{" DEFINE F(A) L\n", api.ErrNone, 0},
	} {
		if _, said := syntax.Read(c.text); said != (api.Fault{}) {
			t.Errorf("Read of %q: fault %v", c.text, said)
		}
		wantWrong(t, api.Job{Text: c.text, Limit: 9}, c.err, c.at)
	}
}

func TestR1InputAndLimit(t *testing.T) {
	last := job("L X = INPUT :S(L)", " OUTPUT = SIZE(X)")
	full, over := strings.Repeat("a", api.MaxText), strings.Repeat("a", api.MaxText+1)
	wantOne(t, within(with(job("L N = N + SIZE(INPUT) :S(L)"), slices.Repeat([]string{"ab"}, api.MaxInput)...), 2000), `end 1001 N="2000"`)
	wantOne(t, with(last, "a", full), `end 4 "65536" X="aa".."aa":65536`)
	for _, n := range []int{api.MaxInput + 1, 5000} {
		wantWrong(t, with(last, make([]string, n)...), api.ErrMany, 0)
	}
	wantWrong(t, with(last, over), api.ErrMuch, 0)
	wantWrong(t, with(last, full, "", over, over), api.ErrMuch, 2)
	wantWrong(t, with(last, append(make([]string, api.MaxInput-1), over)...), api.ErrMuch, api.MaxInput-1)
	for _, limit := range []int{math.MinInt, -api.MaxSteps, -1, api.MaxSteps + 1, math.MaxInt} {
		wantWrong(t, within(last, limit), api.ErrRange, 0)
		wantWrong(t, api.Job{Limit: limit}, api.ErrRange, 0)
	}
}

// Whatever else is wrong, the first error is told: Read's, then Run's in their order.
func TestR1Order(t *testing.T) {
	for mask := 1; mask < 32; mask++ {
		j := api.Job{Text: "* a remark\n X = 1\n", Input: []string{"a", "b"}, Limit: 5}
		if mask&1 > 0 {
			j.Text += " X =\n"
		}
		if mask&2 > 0 {
			j.Text += " :(L)\n"
		}
		if mask&4 > 0 {
			j.Input = make([]string, api.MaxInput+1)
		}
		if mask&8 > 0 {
			j.Input[1] = strings.Repeat("a", api.MaxText+1)
		}
		if mask&16 > 0 {
			j.Limit = -1
		}
		switch {
		case mask&1 > 0:
			wantWrong(t, j, api.ErrForm, 2)
		case mask&2 > 0:
			wantWrong(t, j, api.ErrNone, 1)
		case mask&4 > 0:
			wantWrong(t, j, api.ErrMany, 0)
		case mask&8 > 0:
			wantWrong(t, j, api.ErrMuch, 1)
		default:
			wantWrong(t, j, api.ErrRange, 0)
		}
	}
}

// Of each program that stands ready comes what the layers below say, by statements and by instructions.
func TestR1TheLibrary(t *testing.T) {
	inputs := [][]string{nil, {"7"}, {"12", "18"}, {"a b", "(c)", "", "1994", "1,2,3", "banana"}, {"3", "x", "otto", "-5"}, {"99999999999999999999"}}
	for _, name := range library.Names() {
		for _, input := range inputs {
			for _, limit := range []int{0, 1, 10, 77, 3000} {
				j := within(ready(t, name, input...), limit)
				d := asModel(t, j)
				l, _ := syntax.Read(j.Text)
				ran, _, fault := machine.Run(l, input, limit)
				if !same(d, api.Done{Fault: fault, Ran: ran}) {
					t.Errorf("%s, input %q, limit %d:\n%s; the machine says\n%s", name, input, limit, show(d), show(api.Done{Fault: fault, Ran: ran}))
				}
			}
		}
	}
}
