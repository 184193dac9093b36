package tune_test

import (
	"reflect"
	"strings"
	"testing"
	"unsafe"

	"scanfail/api"
	"scanfail/tune"
)

func TestZ1PatternsThatHoldThemselves(t *testing.T) {
	for _, p := range []api.Pat{endless(api.PatCat, 2), endless(api.PatAlt, 3), endless(api.PatArbno, 1), endless(api.PatCond, 1), endless(api.PatImm, 1), endless(0, 3)} {
		wantWrong(t, "a pattern that holds itself", p, api.ErrMuch)
	}
}

// The greatest patterns, with the longest texts, are done in no time worth telling.
func TestZ1GreatestPatterns(t *testing.T) {
	long := cat(lit(strings.Repeat("x", api.MaxText-api.MaxNodes)))
	for range api.MaxNodes - 2 {
		long.Kids = append(long.Kids, lit("y"))
	}
	wantSimple(t, long, lit(strings.Repeat("x", api.MaxText-api.MaxNodes)+strings.Repeat("y", api.MaxNodes-2)))
	wantLength(t, long, api.MaxText-2, api.MaxText-2)
	wantFirst(t, long, set("x"), false)
	wide := alt()
	for range api.MaxNodes - 1 {
		wide.Kids = append(wide.Kids, bare(api.PatFail))
	}
	wantSimple(t, wide, bare(api.PatFail))
	wantNever(t, wide)
	wantFirst(t, wide, none, false)
	deep := length(1)
	for range api.MaxDepth - 1 {
		deep = arbno(deep)
	}
	want := bare(api.PatArb)
	for range api.MaxDepth - 2 {
		want = arbno(want)
	}
	wantSimple(t, deep, want)
	wantLength(t, deep, 0, -1)
	wantFirst(t, deep, allBytes, true)
}

// copyOf is p in memory of its own, but for its texts, which nobody can change.
func copyOf(p api.Pat) api.Pat {
	if p.Kids == nil {
		return p
	}
	kids := make([]api.Pat, len(p.Kids))
	for i, kid := range p.Kids {
		kids[i] = copyOf(kid)
	}
	p.Kids = kids
	return p
}

// roomy is p with room behind each list of kids, and something wrong in it.
func roomy(p api.Pat) api.Pat {
	if p.Kids == nil {
		return p
	}
	kids := make([]api.Pat, len(p.Kids), len(p.Kids)+2)
	for i, kid := range p.Kids {
		kids[i] = roomy(kid)
	}
	room := kids[:len(p.Kids)+2]
	room[len(p.Kids)], room[len(p.Kids)+1] = bare(99), lit(over)
	p.Kids = kids
	return p
}

// What is handed in is only read, and the room behind its lists is not looked at.
func TestZ2OnlyReads(t *testing.T) {
	small := leaves()
	d := dice(3)
	for range 3000 {
		p := roomy(littered(mixed(&d, small, 5)))
		before := copyOf(p)
		wantAsModel(t, p)
		if !reflect.DeepEqual(p, before) {
			t.Fatalf("what was handed in has changed: %s became %s", tell(before), tell(p))
		}
		each(p, func(node api.Pat) {
			if n := len(node.Kids); n > 0 {
				if room := node.Kids[:n+2]; room[n].Kind != 99 || room[n+1].Text != over {
					t.Fatalf("the room behind what was handed in has changed: %s", tell(p))
				}
			}
		})
		if t.Failed() {
			return
		}
	}
}

func each(p api.Pat, do func(node api.Pat)) {
	do(p)
	for _, kid := range p.Kids {
		each(kid, do)
	}
}

// memory is where something lies, up to where.
type memory struct{ from, to uintptr }

func (m memory) meets(n memory) bool { return m.from < n.to && n.from < m.to }

// memories are where the texts and lists of p lie, the lists with the room behind them.
func memories(p api.Pat) []memory {
	var out []memory
	each(p, func(node api.Pat) {
		for _, s := range []string{node.Text, node.Name} {
			if len(s) > 1 { // texts of one byte may lie where the language keeps them all
				from := uintptr(unsafe.Pointer(unsafe.StringData(s)))
				out = append(out, memory{from, from + uintptr(len(s))})
			}
		}
		if cap(node.Kids) > 0 {
			from := uintptr(unsafe.Pointer(unsafe.SliceData(node.Kids)))
			out = append(out, memory{from, from + uintptr(cap(node.Kids))*unsafe.Sizeof(node)})
		}
	})
	return out
}

// Answers lie in memory of their own, each of their parts.
func TestZ2AnswersAreNewMemory(t *testing.T) {
	small := append(leaves(), lit("long"), text(api.PatAny, "abcd"), cursor("NAME"), pat("*CALLED"), pat("('ab' ARB)"), pat("ARB | 'ab'"))
	d := dice(13)
	for range 3000 {
		p := mixed(&d, small, 5)
		q, err := tune.Simplify(p)
		if err != api.OK {
			t.Fatalf("Simplify of %s: error %d", tell(p), err)
		}
		given, answered := memories(p), memories(q)
		for i, m := range answered {
			for _, n := range given {
				if m.meets(n) {
					t.Fatalf("Simplify of %s: its answer lies in what it was given", tell(p))
				}
			}
			for _, n := range answered[:i] {
				if m.meets(n) {
					t.Fatalf("Simplify of %s: two parts of its answer share memory", tell(p))
				}
			}
		}
	}
}

// nil and lists without entries are the same.
func TestZ3NilIsEmpty(t *testing.T) {
	for _, c := range alone {
		p := pat(c[0])
		p.Kids = nil
		wantSimple(t, p, pat(c[1]))
		p.Kids = []api.Pat{}
		wantSimple(t, p, pat(c[1]))
		wantSimple(t, cond(p, "X"), modelSimple(cond(p, "X")))
	}
	for _, kids := range [][]api.Pat{nil, {}} {
		wantWrong(t, "PatCat of nothing", cat(kids...), api.ErrMany)
	}
}

// What a call answers does not hang on the calls ahead of it.
func TestZ1CallsDoNotKnowOfOneAnother(t *testing.T) {
	p := pat("'a' ABORT 'b' | 'c' | 'd'")
	for range 3 {
		wantSimple(t, p, pat("'a' ABORT | ANY('cd')"))
		wantSimple(t, pat("ABORT | 'a'"), bare(api.PatAbort))
		wantLength(t, p, 1, 1)
		wantFirst(t, p, set("acd"), false)
	}
}
