package fold_test

import (
	"fmt"
	"slices"
	"testing"

	"scanfail/api"
	"scanfail/fold"
)

// leading is a program in which each way on leads to a label, behind which some lines stand.
func leading(to string, behind ...string) []string {
	return slices.Concat([]string{" X = 1 :(" + to + ")", " X = 2 :S(" + to + ")", " X = 3 :F(" + to + ")", " X = 4 :S(" + to + ")F(" + to + ")", " :S(" + to + ")", " X ? ['a'] :S(" + to + ")F(Z)", "Z X ? ['a'] :S(Z)F(" + to + ")"}, behind)
}

// wantLeads: of ways to a label in a program come ways to that one; the lines behind become others.
func wantLeads(t *testing.T, from, to string, behind []string, want ...string) {
	t.Helper()
	wantQuicker(t, leading(from, behind...), leading(to, want...)...)
}

func TestP3OneEmptyStatement(t *testing.T) {
	for _, end := range []string{"END", "RETURN", "FRETURN"} {
		wantLeads(t, "A", end, []string{"A :(" + end + ")"}, "A :("+end+")")
		wantLeads(t, end, end, []string{"A :(" + end + ")"}, "A :("+end+")")
	}
	wantLeads(t, "A", "B", []string{"A :(B)", "B X = 1"}, "A :(B)", "B X = 1")
	wantLeads(t, "B", "B", []string{"A :(B)", "B X = 1"}, "A :(B)", "B X = 1")
	wantLeads(t, "A", "Z", []string{"A :(Z)"}, "A :(Z)")
	wantLeads(t, "A", "B", []string{"B", "A :(B)"}, "B", "A :(B)")
}

func TestP3Chains(t *testing.T) {
	for _, end := range []string{"END", "RETURN", "FRETURN", "Z"} {
		wantLeads(t, "A", end, []string{"A :(B)", "B :(C)", "C :(" + end + ")"}, "A :("+end+")", "B :("+end+")", "C :("+end+")")
		wantLeads(t, "A", end, []string{"C :(" + end + ")", "B :(C)", "A :(B)"}, "C :("+end+")", "B :("+end+")", "A :("+end+")")
		wantLeads(t, "B", end, []string{"A :(B)", "C :(" + end + ")", "B :(C)"}, "A :("+end+")", "C :("+end+")", "B :("+end+")")
	}
	wantQuicker(t, []string{"A :(B)", "B :(C)", "C :(END)", " X = 1 :S(A)F(B)"}, "A :(END)", "B :(END)", "C :(END)", " X = 1 :S(END)F(END)")
	wantQuicker(t, []string{" X ? ['a'] :S(A)F(B)", "A :(C)", "B :(D)", "C :(E)", "D", "E X = 1"}, " X ? ['a'] :S(E)F(D)", "A :(E)", "B :(D)", "C :(E)", "D", "E X = 1")
	wantQuicker(t, []string{"A :S(B)", "B :(A)"}, "A :S(A)", "B :(A)")
	wantQuicker(t, []string{"A X = 1 :(B)", "B :(A)"}, "A X = 1 :(A)", "B :(A)")
}

// chain is a program of empty statements, each of which leads to the next one, the last one to a label.
func chain(n int, last string) []api.Statement {
	l := make([]api.Statement, n)
	for i := range l {
		l[i] = api.Statement{Label: fmt.Sprint("L", i), Kind: api.StEmpty, Always: fmt.Sprint("L", i+1)}
	}
	l[n-1].Always = last
	return l
}

// Chains through as many labels as there can be, written from their ends on, too.
func TestP3LongChains(t *testing.T) {
	for _, n := range []int{1, 2, 3, 50, api.MaxLines} {
		back := chain(n, "END")
		slices.Reverse(back)
		for _, l := range [][]api.Statement{chain(n, "END"), back} {
			k, fault := fold.Program(l)
			if fault != (api.Fault{}) || len(k) != n {
				t.Fatalf("%d in a chain: %d statements, fault %v", n, len(k), fault)
			}
			for i, s := range k {
				if s.Label != l[i].Label || s.Always != "END" {
					t.Errorf("%d in a chain: %s leads to %s", n, s.Label, s.Always)
				}
			}
		}
		for _, last := range []int{0, n / 2, n - 1} {
			ring := chain(n, fmt.Sprint("L", last))
			if k, fault := fold.Program(ring); fault != (api.Fault{}) || !same(k, ring) {
				t.Errorf("%d, the last one of which leads to %d: fault %v,%s", n, last, fault, tell(k))
			}
		}
	}
}

// What comes to no end stays as it was.
func TestP3WithoutAnEnd(t *testing.T) {
	for _, behind := range [][]string{
		{"A :(A)"},
		{"A :(B)", "B :(A)"},
		{"A :(B)", "B :(C)", "C :(A)"},
		{"A :(B)", "B :(B)"},
		{"A :(B)", "B :(C)", "C :(B)"},
		{"A :(B)", "B :(C)", "C :(D)", "D :(C)"},
		{"D :(C)", "C :(D)", "B :(C)", "A :(B)"},
	} {
		wantStays(t, leading("A", behind...)...)
	}
	wantQuicker(t, []string{"A :(B)", "B :(A)", " :(A)", " X = 1 :F(B)", "C :(D)", "D :(E)", "E", " X = 2 :S(C)F(A)"}, "A :(B)", "B :(A)", " :(A)", " X = 1 :F(B)", "C :(E)", "D :(E)", "E", " X = 2 :S(E)F(A)")
}

// Only what is empty, and has Always, leads on.
func TestP3WhatDoesNotLeadOn(t *testing.T) {
	for _, line := range []string{"A", "A :S(B)", "A :F(B)", "A :S(B)F(B)", "A X = 1 :(B)", "A X = 1", "A X :(B)", "A X ? ['a'] :(B)", "A X ? ['a'] = 'b' :(B)", "A P := ['a'] :(B)", "A DEFINE F() A :(B)"} {
		wantStays(t, leading("A", line, "B X = 5")...)
		wantQuicker(t, leading("C", "C :(D)", line, "B X = 5", "D :(A)"), leading("A", "C :(A)", line, "B X = 5", "D :(A)")...)
		wantLeads(t, "B", "A", []string{line, "B :(A)"}, changed(line)...)
	}
	wantStays(t, "A :S(A)F(A)", " X = 1 :S(A)")
	wantStays(t, " X = 1", " X ? ['a']", "")
}

// changed is a line behind which B leads to A.
func changed(line string) []string {
	for _, way := range [][2]string{{":(B)", ":(A)"}, {":S(B)F(B)", ":S(A)F(A)"}, {":S(B)", ":S(A)"}, {":F(B)", ":F(A)"}} {
		if n := len(line) - len(way[0]); n > 0 && line[n:] == way[0] {
			return []string{line[:n] + way[1], "B :(A)"}
		}
	}
	return []string{line, "B :(A)"}
}

// Where a function begins, and labels, stay.
func TestP3EntriesAndLabels(t *testing.T) {
	wantQuicker(t, []string{" DEFINE F() A", " OUTPUT = F() :(C)", "A :(B)", "B F = 'f' :(D)", "C :(END)", "D :(RETURN)"},
		" DEFINE F() A", " OUTPUT = F() :(END)", "A :(B)", "B F = 'f' :(RETURN)", "C :(END)", "D :(RETURN)")
	wantQuicker(t, []string{" DEFINE F(N) A", " OUTPUT = F(1) :F(C)", "", "A LE(N, 0) :S(D)F(C)", "C :(E)", "E :(FRETURN)", "D :(RETURN)"},
		" DEFINE F(N) A", " OUTPUT = F(1) :F(FRETURN)", "", "A LE(N, 0) :S(RETURN)F(FRETURN)", "C :(FRETURN)", "E :(FRETURN)", "D :(RETURN)")
}
