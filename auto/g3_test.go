package auto_test

import (
	"fmt"
	"math"
	"strings"
	"testing"

	"scanfail/api"
	"scanfail/auto"
)

// justA is the automaton of 'a'; a and others are its classes.
var (
	ofA   = []string{"^a", "a"}
	justA = automaton(ofA, "001", []int{1, 2}, []int{1, 1}, []int{1, 1})
)

// empty accepts the empty text alone, single any byte.
var (
	empty  = automaton(one, "10", []int{1}, []int{1})
	single = automaton(one, "010", []int{1}, []int{2}, []int{2})
)

func TestG3EachKind(t *testing.T) {
	for _, c := range []struct {
		pattern string
		want    api.Auto
	}{
		{"'a'", justA},
		{"''", empty},
		{"'aa'", automaton(ofA, "0001", []int{1, 2}, []int{1, 1}, []int{1, 3}, []int{1, 1})},
		{"'ab'", automaton([]string{"^ab", "a", "b"}, "0001", []int{1, 2, 1}, []int{1, 1, 1}, []int{1, 1, 3}, []int{1, 1, 1})},
		{"LEN(0)", empty},
		{"LEN(1)", single},
		{"LEN(2)", automaton(one, "0010", []int{1}, []int{2}, []int{3}, []int{3})},
		{"ANY('a')", justA},
		{"ANY('ba')", automaton([]string{"^ab", "ab"}, "001", []int{1, 2}, []int{1, 1}, []int{1, 1})},
		{"ANY('aaaaaaaaaaaaaaaa')", justA},
		{"NOTANY('a')", automaton(ofA, "010", []int{1, 2}, []int{2, 2}, []int{2, 2})},
		{"NOTANY('abaabaabaabaaba')", automaton([]string{"^ab", "ab"}, "010", []int{1, 2}, []int{2, 2}, []int{2, 2})},
		{"ARB", anything},
		{"FAIL", nothing},
		{"'a' FAIL", nothing},
		{"FAIL 'a'", nothing},
		{"ARB FAIL ARB", nothing},
		{"'a' | FAIL", justA},
		{"FAIL | FAIL", nothing},
		{"'a' ''", justA},
		{"'' 'a' LEN(0)", justA},
		{"'' ''", empty},
		{"'' | ''", empty},
		{"'' | LEN(0) FAIL", empty},
		{"'a' | 'a'", justA},
		{"'a' | ''", automaton(ofA, "101", []int{1, 2}, []int{1, 1}, []int{1, 1})},
		{"'a' | ARB", anything},
		{"ARB ARB", anything},
		{"ARB 'a'", automaton(ofA, "01", []int{0, 1}, []int{0, 1})},
		{"'a' ARB", automaton(ofA, "001", []int{1, 2}, []int{1, 1}, []int{2, 2})},
		{"ARB LEN(1)", automaton(one, "01", []int{1}, []int{1})},
		{"LEN(1) ARB", automaton(one, "01", []int{1}, []int{1})},
		{"ANY('a') | NOTANY('a')", single},
		{"ARBNO('a')", automaton(ofA, "10", []int{1, 0}, []int{1, 1})},
		{"ARBNO(ARBNO('a'))", automaton(ofA, "10", []int{1, 0}, []int{1, 1})},
		{"ARBNO(ARBNO(ARBNO('a') | ARBNO('a')))", automaton(ofA, "10", []int{1, 0}, []int{1, 1})},
		{"ARBNO('')", empty},
		{"ARBNO(LEN(0))", empty},
		{"ARBNO(FAIL)", empty},
		{"ARBNO('a' FAIL)", empty},
		{"ARBNO(ARBNO(FAIL))", empty},
		{"ARBNO(ARB)", anything},
		{"ARBNO(LEN(1))", anything},
		{"ARBNO('a' | '')", automaton(ofA, "10", []int{1, 0}, []int{1, 1})},
		{"ARBNO('' | ANY('a'))", automaton(ofA, "10", []int{1, 0}, []int{1, 1})},
		{"ARBNO(LEN(2))", ring(2, 0)},
		{"ARBNO(LEN(2)) LEN(1)", ring(2, 1)},
		{"ARBNO(LEN(2) | LEN(3))", automaton(one, "101", []int{1}, []int{2}, []int{2})},
		{"ARBNO('aa') | ARBNO('aaa')", automaton(ofA, "1001110", []int{1, 2}, []int{1, 1}, []int{1, 3}, []int{1, 4}, []int{1, 5}, []int{1, 6}, []int{1, 0})},
		{"ARBNO('ab')", automaton([]string{"^ab", "a", "b"}, "100", []int{1, 2, 1}, []int{1, 1, 1}, []int{1, 1, 0})},
		{"ARBNO('a' | 'b') 'abb'", automaton([]string{"^ab", "a", "b"}, "00001", []int{1, 2, 0}, []int{1, 1, 1}, []int{1, 2, 3}, []int{1, 2, 4}, []int{1, 2, 0})},
		{"('a' | 'b') ('c' | 'd')", automaton([]string{"^a-d", "ab", "cd"}, "0001", []int{1, 2, 1}, []int{1, 1, 1}, []int{1, 1, 3}, []int{1, 1, 1})},
	} {
		wantMade(t, pat(c.pattern), c.want)
	}
}

func TestG3Bytes(t *testing.T) {
	for b := range 256 {
		s := string([]byte{byte(b)})
		want := api.Auto{Next: [][]int{{1, 2}, {1, 1}, {1, 1}}, Ends: []bool{false, false, true}}
		want.Class[b] = 1
		if b == 0 { // it is the least byte then, and of the first class
			want = api.Auto{Next: [][]int{{1, 2}, {2, 2}, {2, 2}}, Ends: []bool{false, true, false}}
			for c := 1; c < 256; c++ {
				want.Class[c] = 1
			}
		}
		wantMade(t, lit(s), want)
		wantMade(t, text(api.PatAny, s+s), want)
		wantMade(t, arbno(cat(lit(s), bare(api.PatFail))), empty)
	}
	var all []byte
	for b := range 256 {
		all = append(all, byte(b))
	}
	wantMade(t, text(api.PatAny, string(all)), single)
	wantMade(t, text(api.PatNotAny, string(all)), nothing)
	wantMade(t, arbno(text(api.PatNotAny, string(all))), empty)
	wantMade(t, text(api.PatNotAny, string(all[:255])), automaton([]string{"^\\ff", "\\ff"}, "001", []int{1, 2}, []int{1, 1}, []int{1, 1}))
	wantMade(t, text(api.PatAny, strings.Repeat("a", api.MaxText)), justA)
}

// others are patterns of each kind that is not taken, with nothing wrong.
var others = []string{
	"SPAN('a')", "BREAK('a')", "BREAKX('a')", "TAB(0)", "RTAB(0)", "POS(0)", "RPOS(0)", "REM", "BAL", "FENCE", "ABORT", "'a' . X", "'a' $ X", "@X", "*X",
}

func TestG3Kinds(t *testing.T) {
	for _, s := range others {
		p := pat(s)
		wantNotMade(t, s, p, api.ErrKind)
		deep := p
		for range 150 {
			deep = arbno(deep)
		}
		for i, q := range []api.Pat{
			arbno(p), cat(p, lit("a")), cat(lit("a"), p), alt(p, lit("a")), alt(lit("a"), p), cat(bare(api.PatFail), p), alt(bare(api.PatArb), p), cat(lit("a"), arbno(alt(lit("b"), cat(lit("c"), p)))), deep,
			cat(length(13), p), cat(p, length(13)), alt(lit("abcdefghijklm"), bare(api.PatArb), p), arbno(cat(length(api.MaxText), length(api.MaxText), p)),
		} {
			wantNotMade(t, fmt.Sprintf("%s within others, %d", s, i), q, api.ErrKind)
		}
	}
	wantNotMade(t, "a pattern within one that is not taken", cond(cat(lit("a"), bare(api.PatArb)), "X"), api.ErrKind)
	wantNotMade(t, "too many places within one that is not taken", imm(length(13), "X"), api.ErrKind)
}

// What is wrong with the pattern comes ahead of its kinds and its places.
func TestG3WrongFirst(t *testing.T) {
	rem := bare(api.PatRem)
	much := length(13)
	for _, c := range []struct {
		what string
		p    api.Pat
		want api.Errno
	}{
		{"noughts", api.Pat{}, api.ErrKind},
		{"no kind", bare(25), api.ErrKind},
		{"no kind below 0", bare(-1), api.ErrKind},
		{"PatAny without text", bare(api.PatAny), api.ErrFit},
		{"PatNotAny without text", bare(api.PatNotAny), api.ErrFit},
		{"PatSpan without text", bare(api.PatSpan), api.ErrFit},
		{"PatLit with too long a text", lit(over), api.ErrMuch},
		{"PatBreak with too long a text", text(api.PatBreak, over), api.ErrMuch},
		{"LEN(-1)", length(-1), api.ErrRange},
		{"LEN(65537)", length(api.MaxText + 1), api.ErrRange},
		{"LEN of the least number", length(math.MinInt), api.ErrRange},
		{"LEN of the greatest number", length(math.MaxInt), api.ErrRange},
		{"POS(-1)", number(api.PatPos, -1), api.ErrRange},
		{"PatCat of nothing", cat(), api.ErrMany},
		{"PatCat of one", cat(lit("a")), api.ErrMany},
		{"PatAlt of one", alt(lit("a")), api.ErrMany},
		{"PatArbno of nothing", bare(api.PatArbno), api.ErrMany},
		{"PatArbno of two", api.Pat{Kind: api.PatArbno, Kids: []api.Pat{much, rem}}, api.ErrMany},
		{"PatFail with a kid", api.Pat{Kind: api.PatFail, Kids: []api.Pat{rem}}, api.ErrMany},
		{"PatCond without a name", cond(lit("a"), ""), api.ErrName},
		{"PatCall with no name", named(api.PatCall, "1"), api.ErrName},
		{"REM, and LEN(-1) behind it", cat(rem, length(-1)), api.ErrRange},
		{"LEN(13), and LEN(-1) behind it", cat(much, length(-1)), api.ErrRange},
		{"REM, LEN(13), and PatAny without text", alt(rem, much, arbno(bare(api.PatAny))), api.ErrFit},
		{"REM, and a PatCat of one deep within", arbno(alt(rem, arbno(cat(much)))), api.ErrMany},
		{"a wrong one below one that is not taken", cond(length(-1), "X"), api.ErrRange},
	} {
		wantNotMade(t, c.what, c.p, c.want)
	}
	deep := bare(api.PatRem)
	for range api.MaxDepth {
		deep = arbno(deep)
	}
	wantNotMade(t, "one too deep", deep, api.ErrMuch)
	wide := cat(rem)
	for range api.MaxNodes {
		wide.Kids = append(wide.Kids, rem)
	}
	wantNotMade(t, "one too wide", wide, api.ErrMuch)
}

// many is n of p, one behind the other, alternatives, or deeper and deeper.
func many(n int, p api.Pat) []api.Pat {
	var c, a api.Pat
	c.Kind, a.Kind = api.PatCat, api.PatAlt
	deep := bare(api.PatFail)
	for i := range n {
		c.Kids, a.Kids = append(c.Kids, p), append(a.Kids, p)
		if i%2 == 0 {
			deep = arbno(cat(p, deep))
		} else {
			deep = alt(deep, arbno(p))
		}
	}
	return []api.Pat{c, a, deep}
}

func TestG3Places(t *testing.T) {
	letters := "abcdefghijklmn"
	for n := 2; n <= 14; n++ {
		tries := []api.Pat{lit(letters[:n]), length(n), cat(lit(letters[:n-1]), length(1)), alt(length(n-1), bare(api.PatArb)), cat(lit("a"), arbno(length(n-1)))}
		for _, p := range []api.Pat{lit("a"), length(1), text(api.PatAny, "abc"), text(api.PatNotAny, "abc"), bare(api.PatArb)} {
			tries = append(tries, many(n, p)...)
		}
		for _, p := range tries {
			if n > api.MaxPlaces {
				wantNotMade(t, tell(p), p, api.ErrMuch)
				continue
			}
			a, err := auto.Make(p)
			if err != api.OK {
				t.Errorf("Make of %s: error %d; want none: it has %d places", tell(p), err, n)
				continue
			}
			wantLeast(t, a)
			wantTakes(t, p, a)
		}
	}
	for _, s := range []string{"'abcdefghijkl'", "LEN(12)", "'abcd' LEN(4) ANY('abcdefghijklmnop') NOTANY('x') ARB ARB", "LEN(6) | ARBNO(LEN(6))"} {
		p := pat(s)
		for _, more := range []string{"''", "LEN(0)", "FAIL", "ARBNO('' | FAIL)"} {
			for _, q := range []api.Pat{cat(p, pat(more)), cat(pat(more), p), alt(p, pat(more)), arbno(alt(pat(more), p))} {
				if a, err := auto.Make(q); err != api.OK {
					t.Errorf("Make of %s: %s, error %d; want none: it has 12 places", tell(q), tellAuto(a), err)
				}
			}
		}
		for _, more := range []string{"'a'", "LEN(1)", "ANY('a')", "NOTANY('a')", "ARB", "LEN(65536)", "ARBNO(ARBNO('a'))"} {
			for _, q := range []api.Pat{cat(p, pat(more)), cat(pat(more), p), alt(p, pat(more)), arbno(alt(pat(more), p)), cat(bare(api.PatFail), p, pat(more)), alt(bare(api.PatArb), cat(p, bare(api.PatFail)), pat(more))} {
				wantNotMade(t, tell(q), q, api.ErrMuch)
			}
		}
	}
	wantNotMade(t, "LEN(13)", length(13), api.ErrMuch)
	wantNotMade(t, "LEN(65536)", length(api.MaxText), api.ErrMuch)
	wantNotMade(t, "the longest text", lit(over[1:]), api.ErrMuch)
	wantNotMade(t, "the longest texts, many of them", cat(many(2000, lit(over[1:]))[0], many(2000, length(api.MaxText))[1]), api.ErrMuch)
}

// Patterns that come to many states: a byte so far ahead of the end.
func TestG3ManyStates(t *testing.T) {
	for n := range 11 {
		p := cat(bare(api.PatArb), lit("a"), length(n))
		a, err := auto.Make(p)
		if want := 1 << (n + 1); err != api.OK || len(a.Next) != want {
			t.Errorf("Make of %s: %d states, error %d; want %d", tell(p), len(a.Next), err, want)
		}
		if n < 8 {
			wantTakes(t, p, a)
			wantLeast(t, a)
		}
	}
}

// The greatest patterns that may be, with places or without.
func TestG3Great(t *testing.T) {
	wide := alt()
	for range api.MaxNodes - 1 {
		wide.Kids = append(wide.Kids, lit(""))
	}
	wantMade(t, wide, empty)
	wide.Kids[4000] = lit("a")
	wantMade(t, wide, automaton(ofA, "101", []int{1, 2}, []int{1, 1}, []int{1, 1}))
	wide.Kind = api.PatCat
	wantMade(t, wide, justA)
	wide.Kids[0] = bare(api.PatFail)
	wantMade(t, wide, nothing)
	deep := length(1)
	for range api.MaxDepth - 1 {
		deep = arbno(deep)
	}
	wantMade(t, deep, anything)
}
