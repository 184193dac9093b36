package pats_test

import (
	"fmt"
	"strings"
	"testing"

	"scanfail/api"
	"scanfail/pats"
)

func TestD1Named(t *testing.T) {
	for _, c := range []struct {
		s    string
		want bool
	}{
		{"", false},
		{"A", true},
		{"Z", true},
		{"A1", true},
		{"X0Y9", true},
		{"A00", true},
		{"LEN", true},
		{"END", true},
		{"1", false},
		{"1A", false},
		{"0", false},
		{"a", false},
		{"Ab", false},
		{"AéB", false},
		{"Ä", false},
		{" A", false},
		{"A ", false},
		{"A B", false},
		{"A_B", false},
		{"'A'", false},
		{"ABCDEFGHIJKLMNO", true},
		{"ABCDEFGHIJKLMNOP", true}, // MaxName signs
		{"ABCDEFGHIJKLMNOPQ", false},
		{"A123456789012345", true},
		{"A1234567890123456", false},
		{"1234567890123456", false},
		{strings.Repeat("A", api.MaxName), true},
		{strings.Repeat("A", api.MaxName+1), false},
		{full, false},
		{over, false},
		{strings.ToUpper(over), false},
	} {
		if got := pats.Named(c.s); got != c.want {
			t.Errorf("Named %q: %t; want %t", brief(c.s), got, c.want)
		}
	}
}

// Of every byte: first, in the middle, and last.
func TestD1NamedEachByte(t *testing.T) {
	for b := range 256 {
		s := string([]byte{byte(b)})
		letter := strings.Contains("ABCDEFGHIJKLMNOPQRSTUVWXYZ", s)
		sign := letter || strings.Contains("0123456789", s)
		for name, want := range map[string]bool{s: letter, s + "A": letter, "A" + s: sign, "A" + s + "0": sign, strings.Repeat("A", api.MaxName-1) + s: sign, strings.Repeat("A", api.MaxName) + s: false} {
			if got := pats.Named(name); got != want {
				t.Errorf("Named %q: %t; want %t", name, got, want)
			}
		}
	}
}

func TestD1Size(t *testing.T) {
	for _, c := range []struct {
		p            api.Pat
		nodes, depth int
	}{
		{api.Pat{}, 1, 1}, // whatever its kind
		{api.Pat{Kids: []api.Pat{}}, 1, 1},
		{bare(99), 1, 1},
		{lit("abc"), 1, 1},
		{cat(), 1, 1},
		{cat(lit("a"), lit("b")), 3, 2},
		{arbno(lit("a")), 2, 2},
		{cond(imm(lit("a"), "X"), "Y"), 3, 3},
		{alt(cat(lit("a"), lit("b")), lit("c")), 5, 3},
		{alt(lit("c"), cat(lit("a"), lit("b"))), 5, 3}, // the deepest one last
		{alt(arbno(arbno(lit("a"))), lit("b"), cat(lit("c"), lit("d"))), 8, 4},
		{api.Pat{Kind: api.PatLit, Kids: []api.Pat{lit("a"), {Kids: []api.Pat{{}}}}}, 4, 3}, // kids count even where there should be none
		{api.Pat{Kind: -1, Name: "bad", N: -1, Text: over, Kids: []api.Pat{{Kind: 99}}}, 2, 2},
	} {
		wantSize(t, tell(c.p), c.p, c.nodes, c.depth, api.OK)
	}
}

func TestD1SizeEdges(t *testing.T) {
	wantSize(t, "MaxNodes - 1 nodes", wide(api.MaxNodes-1), api.MaxNodes-1, 2, api.OK)
	wantSize(t, "MaxNodes nodes", wide(api.MaxNodes), api.MaxNodes, 2, api.OK)
	wantSize(t, "MaxNodes + 1 nodes", wide(api.MaxNodes+1), 0, 0, api.ErrMuch)
	wantSize(t, "very many nodes", wide(1<<18), 0, 0, api.ErrMuch)
	wantSize(t, "MaxDepth - 1 deep", deep(api.MaxDepth-1), api.MaxDepth-1, api.MaxDepth-1, api.OK)
	wantSize(t, "MaxDepth deep", deep(api.MaxDepth), api.MaxDepth, api.MaxDepth, api.OK)
	wantSize(t, "MaxDepth + 1 deep", deep(api.MaxDepth+1), 0, 0, api.ErrMuch)
	wantSize(t, "very deep", deep(1<<16), 0, 0, api.ErrMuch)
	wantSize(t, "deep, in its last kid alone", cat(lit("a"), lit("b"), deep(api.MaxDepth-1)), api.MaxDepth+2, api.MaxDepth, api.OK)
	wantSize(t, "too deep, in its last kid alone", cat(lit("a"), lit("b"), deep(api.MaxDepth)), 0, 0, api.ErrMuch)
	wantSize(t, "too deep, in its first kid alone", cat(deep(api.MaxDepth), lit("a"), lit("b")), 0, 0, api.ErrMuch)
}

// Nodes are counted in all, not kid by kid.
func TestD1SizeCountsAllNodes(t *testing.T) {
	half := wide(api.MaxNodes/2 - 1)
	wantSize(t, "two halves", cat(half, half), api.MaxNodes-1, 3, api.OK)
	wantSize(t, "two halves and one", cat(half, half, lit("")), api.MaxNodes, 3, api.OK)
	wantSize(t, "two halves and two", cat(half, half, lit(""), lit("")), 0, 0, api.ErrMuch)
	tree := lit("a")
	for depth := 1; depth <= 12; depth++ {
		wantSize(t, fmt.Sprintf("a tree %d deep", depth), tree, 1<<depth-1, depth, api.OK)
		tree = alt(tree, tree)
	}
	wantSize(t, "a tree 13 deep", tree, 0, 0, api.ErrMuch)
}

// A list may hold itself, and a call ends all the same.
func TestD1SizeOfWhatHasNoEnd(t *testing.T) {
	for kids := 1; kids <= 3; kids++ {
		p := endless(api.PatCat, kids)
		wantSize(t, "a pattern without an end", p, 0, 0, api.ErrMuch)
		wantWrong(t, "a pattern without an end", p, api.ErrMuch)
	}
}
