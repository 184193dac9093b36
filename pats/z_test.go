package pats_test

import (
	"reflect"
	"strings"
	"testing"
	"unsafe"

	"scanfail/api"
	"scanfail/pats"
)

// copyOf is p in memory of its own, but for its texts, which nobody can change.
func copyOf(p api.Pat) api.Pat {
	if p.Kids == nil {
		return p
	}
	kids := make([]api.Pat, len(p.Kids))
	for i, kid := range p.Kids {
		kids[i] = copyOf(kid)
	}
	p.Kids = kids
	return p
}

// What is handed in is only read, and the room behind its lists is not looked at.
func TestZ2OnlyReads(t *testing.T) {
	room := []api.Pat{cond(lit("a"), "B"), imm(call("P"), "A"), bare(0), endless(0, 2)}
	d := dice(5)
	for range 500 {
		room[0], room[1] = mixed(&d, 4), mixed(&d, 4)
		p := api.Pat{Kind: api.PatAlt, Kids: room[:2]}
		before := copyOf(p)
		wantWrong(t, "a list with room behind it", p, api.OK)
		s, _ := pats.Print(p)
		if spare := room[2]; !reflect.DeepEqual(p, before) || spare.Kind != 0 || spare.Kids != nil {
			t.Fatalf("what was handed in has changed: %s", tell(before))
		}
		if nodes, _, err := pats.Size(p); err != api.OK || nodes > api.MaxNodes {
			t.Fatalf("Size of %s: %d nodes, error %d", tell(p), nodes, err)
		}
		wantRead(t, s, named(before))
	}
}

// shares tells whether two texts lie, in part, in the same memory.
func shares(a, b string) bool {
	if a == "" || b == "" {
		return false
	}
	p, q := uintptr(unsafe.Pointer(unsafe.StringData(a))), uintptr(unsafe.Pointer(unsafe.StringData(b)))
	return p < q+uintptr(len(b)) && q < p+uintptr(len(a))
}

func TestZ2AnswersAreNewMemory(t *testing.T) {
	source := "('text' . VARIABLE | ANY('bytes') $ OTHER) @CURSOR *RULE ARBNO('more' 'text')"
	p, fault := pats.Read(source)
	if fault.Err != api.OK {
		t.Fatalf("Read %q: fault %v", source, fault)
	}
	each(p, func(node api.Pat) {
		if shares(node.Text, source) || shares(node.Name, source) {
			t.Errorf("Read: %q or %q lies in what it was given", node.Text, node.Name)
		}
	})
	given, called, _ := pats.Names(p)
	each(p, func(node api.Pat) {
		for _, name := range append(given, called...) {
			if shares(name, node.Name) {
				t.Errorf("Names: %q lies in what it was given", name)
			}
		}
	})
	if s := strings.Repeat("a", 50); shares(pats.Quote(s), s) {
		t.Errorf("Quote: its answer lies in what it was given")
	}
}

// Lists of one answer, and of two, share nothing, not even the room behind them.
func TestZ2ListsAreApart(t *testing.T) {
	source := "'a' 'b' 'c' ('d' 'e' 'f' | 'g' 'h' 'i' | 'j') . X"
	p, _ := pats.Read(source)
	again, _ := pats.Read(source)
	spoil(p)
	if fresh, _ := pats.Read(source); !same(again, fresh) {
		t.Errorf("two answers of Read share memory")
	}
	given, called, _ := pats.Names(cat(cursor("A"), cursor("B"), cursor("C"), call("D"), call("E"), call("F")))
	_ = append(given, "X")
	_ = append(called, "Y")
	if !sameList(given, []string{"A", "B", "C"}) || !sameList(called, []string{"D", "E", "F"}) {
		t.Errorf("the two lists of Names share memory: %q, %q", given, called)
	}
	var kids [][]api.Pat
	each(again, func(node api.Pat) { kids = append(kids, node.Kids) })
	for _, l := range kids {
		_ = append(l, bare(api.PatAbort))
	}
	if fresh, _ := pats.Read(source); !same(again, fresh) {
		t.Errorf("two lists of one answer share memory")
	}
}

func spoil(p api.Pat) {
	for i, kid := range p.Kids {
		spoil(kid)
		p.Kids[i] = bare(api.PatAbort)
	}
}

// nil and lists without entries are the same.
func TestZ3NilIsEmpty(t *testing.T) {
	for kind := range 26 {
		without, empty := good(kind), good(kind)
		if len(without.Kids) > 0 {
			continue
		}
		without.Kids, empty.Kids = nil, []api.Pat{}
		a, errA := pats.Print(without)
		b, errB := pats.Print(empty)
		if a != b || errA != errB || pats.Wrong(without) != pats.Wrong(empty) {
			t.Errorf("kind %d: %q, error %d with nil; %q, error %d with an empty list", kind, a, errA, b, errB)
		}
	}
}
