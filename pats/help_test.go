package pats_test

import (
	"fmt"
	"reflect"
	"strings"
	"testing"

	"scanfail/api"
	"scanfail/pats"
)

// full is as long as a text may be, over is one byte longer.
var (
	full = strings.Repeat("a", api.MaxText)
	over = full + "a"
)

// Kinds that have the same parts.
var (
	texted   = []int{api.PatLit, api.PatAny, api.PatNotAny, api.PatSpan, api.PatBreak, api.PatBreakX}
	numbered = []int{api.PatLen, api.PatTab, api.PatRTab, api.PatPos, api.PatRPos}
	naming   = []int{api.PatCond, api.PatImm, api.PatCursor, api.PatCall}
	plain    = []int{api.PatRem, api.PatArb, api.PatBal, api.PatFail, api.PatFence, api.PatAbort}
)

func in(l []int, kind int) bool {
	for _, k := range l {
		if k == kind {
			return true
		}
	}
	return false
}

// kidsOf is how many kids a kind has, at least and at most.
func kidsOf(kind int) (least, most int) {
	switch kind {
	case api.PatCat, api.PatAlt:
		return 2, api.MaxNodes
	case api.PatArbno, api.PatCond, api.PatImm:
		return 1, 1
	}
	return 0, 0
}

func lit(s string) api.Pat { return api.Pat{Kind: api.PatLit, Text: s} }

func text(kind int, s string) api.Pat { return api.Pat{Kind: kind, Text: s} }

func number(kind, n int) api.Pat { return api.Pat{Kind: kind, N: n} }

func bare(kind int) api.Pat { return api.Pat{Kind: kind} }

func cat(kids ...api.Pat) api.Pat { return api.Pat{Kind: api.PatCat, Kids: kids} }

func alt(kids ...api.Pat) api.Pat { return api.Pat{Kind: api.PatAlt, Kids: kids} }

func arbno(kid api.Pat) api.Pat { return api.Pat{Kind: api.PatArbno, Kids: []api.Pat{kid}} }

func cond(kid api.Pat, name string) api.Pat {
	return api.Pat{Kind: api.PatCond, Name: name, Kids: []api.Pat{kid}}
}

func imm(kid api.Pat, name string) api.Pat {
	return api.Pat{Kind: api.PatImm, Name: name, Kids: []api.Pat{kid}}
}

func cursor(name string) api.Pat { return api.Pat{Kind: api.PatCursor, Name: name} }

func call(name string) api.Pat { return api.Pat{Kind: api.PatCall, Name: name} }

// good is a pattern of a kind with nothing wrong; a is its first kid.
func good(kind int) api.Pat {
	p := api.Pat{Kind: kind}
	switch {
	case in(texted, kind):
		p.Text = "t"
	case in(numbered, kind):
		p.N = 3
	case in(naming, kind):
		p.Name = "V"
	}
	least, _ := kidsOf(kind)
	for i := range least {
		p.Kids = append(p.Kids, lit(string(rune('a'+i))))
	}
	return p
}

// deep is a pattern that is n deep, and has n nodes.
func deep(n int) api.Pat {
	p := bare(api.PatArb)
	for range n - 1 {
		p = arbno(p)
	}
	return p
}

// wide is a pattern of n nodes, all but one its kids.
func wide(n int) api.Pat {
	p := cat()
	for range n - 1 {
		p.Kids = append(p.Kids, bare(api.PatArb))
	}
	return p
}

// endless is a pattern whose list of kids holds that list.
func endless(kind, kids int) api.Pat {
	p := api.Pat{Kind: kind, Name: "X", Kids: make([]api.Pat, kids)}
	for i := range p.Kids {
		p.Kids[i] = p
	}
	return p
}

// named is p without what its kinds do not name.
func named(p api.Pat) api.Pat {
	out := api.Pat{Kind: p.Kind}
	if in(texted, p.Kind) {
		out.Text = p.Text
	}
	if in(numbered, p.Kind) {
		out.N = p.N
	}
	if in(naming, p.Kind) {
		out.Name = p.Name
	}
	for _, kid := range p.Kids {
		out.Kids = append(out.Kids, named(kid))
	}
	return out
}

// same tells whether two patterns are the same; lists without entries are.
func same(a, b api.Pat) bool {
	if a.Kind != b.Kind || a.Text != b.Text || a.N != b.N || a.Name != b.Name || len(a.Kids) != len(b.Kids) {
		return false
	}
	for i := range a.Kids {
		if !same(a.Kids[i], b.Kids[i]) {
			return false
		}
	}
	return true
}

func isZero(p api.Pat) bool { return same(p, api.Pat{}) }

// dice tells numbers that look mixed, the same ones each time.
type dice uint64

func (d *dice) below(n int) int {
	*d ^= *d << 13
	*d ^= *d >> 7
	*d ^= *d << 17
	return int(uint64(*d) >> 11 % uint64(n))
}

// mixed is some pattern with nothing wrong, at most so deep; what its kinds do not name is set, too.
func mixed(d *dice, depth int) api.Pat {
	kind := 1 + d.below(24)
	if d.below(2) == 0 { // of those that have kids there are few
		kind = api.PatCat + d.below(5)
	}
	least, most := kidsOf(kind)
	if depth == 1 && least > 0 {
		kind, least, most = api.PatArb, 0, 0
	}
	someTexts := []string{"a", "'", "''", "it's", "(", " ", "|", "A", "\x00\xff", "a' 'b"}
	someNames := []string{"A", "X", "LEN", "ARB", "Z9", "ABCDEFGHIJKLMNOP", "A0000000000000009"[:16]}
	p := api.Pat{
		Kind: kind,
		Text: someTexts[d.below(len(someTexts))],
		N:    []int{0, 1, 9, 10, 65535, 65536}[d.below(6)],
		Name: someNames[d.below(len(someNames))],
	}
	if kind == api.PatLit && d.below(3) == 0 {
		p.Text = ""
	}
	for range least + d.below(min(most-least, 3)+1) {
		p.Kids = append(p.Kids, mixed(d, depth-1))
	}
	return p
}

// brief is a text as a failure tells it: 64 KiB of it would help nobody.
func brief(s string) string {
	if len(s) > 80 {
		return s[:80] + ".."
	}
	return s
}

func tell(p api.Pat) string { return brief(fmt.Sprintf("%+v", p)) }

// wantSize also asks Z4: beside an error there are noughts.
func wantSize(t *testing.T, what string, p api.Pat, nodes, depth int, err api.Errno) {
	t.Helper()
	if n, d, e := pats.Size(p); n != nodes || d != depth || e != err {
		t.Errorf("Size of %s: %d, %d, error %d; want %d, %d, error %d", what, n, d, e, nodes, depth, err)
	}
}

// wantWrong also asks Names and Print: they tell what is wrong, and nothing beside it (Z4).
func wantWrong(t *testing.T, what string, p api.Pat, want api.Errno) {
	t.Helper()
	if got := pats.Wrong(p); got != want {
		t.Errorf("Wrong of %s: error %d; want %d", what, got, want)
	}
	given, called, err := pats.Names(p)
	if err != want || err != api.OK && len(given)+len(called) > 0 {
		t.Errorf("Names of %s: %q, %q, error %d; want error %d", what, given, called, err, want)
	}
	s, err := pats.Print(p)
	if want != api.OK && (err != want || s != "") {
		t.Errorf("Print of %s: %q, error %d; want error %d", what, brief(s), err, want)
	}
}

func wantNames(t *testing.T, p api.Pat, given, called []string) {
	t.Helper()
	g, c, err := pats.Names(p)
	if err != api.OK || !sameList(g, given) || !sameList(c, called) {
		t.Errorf("Names of %s: %q, %q, error %d; want %q, %q", tell(p), g, c, err, given, called)
	}
}

func sameList(a, b []string) bool {
	return len(a) == 0 && len(b) == 0 || reflect.DeepEqual(a, b)
}

func wantPrint(t *testing.T, p api.Pat, want string) {
	t.Helper()
	if got, err := pats.Print(p); err != api.OK || got != want {
		t.Errorf("Print of %s: %q (%d bytes), error %d; want %q (%d bytes)", tell(p), brief(got), len(got), err, brief(want), len(want))
	}
}

// wantTooLong: there is nothing wrong with p, but it is too long in a text.
func wantTooLong(t *testing.T, p api.Pat) {
	t.Helper()
	got, err := pats.Print(p)
	if wrong := pats.Wrong(p); wrong != api.OK || err != api.ErrMuch || got != "" {
		t.Errorf("Print of %s: %d bytes, error %d, and it is wrong by %d; want no bytes, error %d, not wrong", tell(p), len(got), err, wrong, api.ErrMuch)
	}
}

func wantRead(t *testing.T, text string, want api.Pat) {
	t.Helper()
	got, fault := pats.Read(text)
	if fault != (api.Fault{}) || !same(got, want) {
		t.Errorf("Read %q: %s, fault %v; want %s, no fault", brief(text), tell(got), fault, tell(want))
	}
}

// wantFault also asks Z4: beside a fault the pattern is empty.
func wantFault(t *testing.T, text string, err api.Errno, at int) {
	t.Helper()
	got, fault := pats.Read(text)
	if fault != (api.Fault{Err: err, At: at}) || !isZero(got) {
		t.Errorf("Read %q (%d bytes): %s, fault %v; want nothing, fault {%d %d}", brief(text), len(text), tell(got), fault, err, at)
	}
}
