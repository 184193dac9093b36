package tune_test

import (
	"fmt"
	"slices"
	"strings"
	"testing"

	"scanfail/api"
)

// alone are patterns without kids, and what each becomes.
var alone = [][2]string{
	{"'a'", "'a'"},
	{"''", "''"},
	{"'banana'", "'banana'"}, // a text of PatLit stays as it is
	{"LEN(0)", "''"},
	{"LEN(1)", "LEN(1)"},
	{"LEN(65536)", "LEN(65536)"},
	{"ANY('a')", "'a'"},
	{"ANY('aaa')", "'a'"},
	{"ANY('ab')", "ANY('ab')"},
	{"ANY('banana')", "ANY('abn')"},
	{"NOTANY('a')", "NOTANY('a')"},
	{"NOTANY('banana')", "NOTANY('abn')"},
	{"SPAN('a')", "SPAN('a')"},
	{"SPAN('aa')", "SPAN('a')"},
	{"SPAN('banana')", "SPAN('abn')"},
	{"BREAK('a')", "BREAK('a')"},
	{"BREAK('banana')", "BREAK('abn')"},
	{"BREAKX('a')", "BREAKX('a')"},
	{"BREAKX('banana')", "BREAKX('abn')"},
	{"TAB(0)", "TAB(0)"},
	{"TAB(3)", "TAB(3)"},
	{"RTAB(0)", "REM"},
	{"RTAB(1)", "RTAB(1)"},
	{"POS(0)", "POS(0)"},
	{"POS(3)", "POS(3)"},
	{"RPOS(0)", "RPOS(0)"},
	{"RPOS(3)", "RPOS(3)"},
	{"REM", "REM"},
	{"ARB", "ARB"},
	{"BAL", "BAL"},
	{"FAIL", "FAIL"},
	{"FENCE", "FENCE"},
	{"ABORT", "ABORT"},
	{"@X", "@X"},
	{"*X", "*X"},
}

func TestF1Alone(t *testing.T) {
	for _, c := range alone {
		wantSimple(t, pat(c[0]), pat(c[1]))
	}
}

// Each of them within others, at which it becomes the same, or makes them become something else.
func TestF1Within(t *testing.T) {
	for _, c := range alone {
		p, q := pat(c[0]), pat(c[1])
		empty, ends := c[1] == "''", c[1] == "FAIL" || c[1] == "ABORT"
		for _, name := range []string{"X", "LONGNAMEOF16SIGN"} {
			wantCond, wantImm := cond(q, name), imm(q, name)
			if ends {
				wantCond, wantImm = q, q
			}
			wantSimple(t, cond(p, name), wantCond)
			wantSimple(t, imm(p, name), wantImm)
		}
		wantArbno := arbno(q)
		switch c[1] {
		case "FAIL", "''":
			wantArbno = lit("")
		case "LEN(1)":
			wantArbno = bare(api.PatArb)
		}
		wantSimple(t, arbno(p), wantArbno)
		between, either := cat(bare(api.PatRem), q, bare(api.PatArb)), alt(bare(api.PatRem), q, bare(api.PatArb))
		switch {
		case empty:
			between = cat(bare(api.PatRem), bare(api.PatArb))
		case ends:
			between = cat(bare(api.PatRem), q)
		}
		switch c[1] {
		case "FAIL":
			either = alt(bare(api.PatRem), bare(api.PatArb))
		case "ABORT":
			either = alt(bare(api.PatRem), q)
		}
		wantSimple(t, cat(bare(api.PatRem), p, bare(api.PatArb)), between)
		wantSimple(t, alt(bare(api.PatRem), p, bare(api.PatArb)), either)
	}
}

func wantSimples(t *testing.T, l [][2]string) {
	t.Helper()
	for _, c := range l {
		wantSimple(t, pat(c[0]), pat(c[1]))
	}
}

func TestF1Texts(t *testing.T) {
	var all, down []byte
	for b := range 256 {
		all = append(all, byte(b))
	}
	for b := range 512 {
		down = append(down, byte(511-b))
	}
	for _, kind := range []int{api.PatAny, api.PatNotAny, api.PatSpan, api.PatBreak, api.PatBreakX} {
		wantSimple(t, text(kind, string(down)), text(kind, string(all)))
		wantSimple(t, text(kind, "\xff\x80\x7f\x00\x80\xff"), text(kind, "\x00\x7f\x80\xff"))
		wantSimple(t, text(kind, "zyzyx"), text(kind, "xyz"))
		want := text(kind, "a")
		if kind == api.PatAny {
			want = lit("a")
		}
		wantSimple(t, text(kind, full), want)
	}
	for b := range 256 {
		s := string([]byte{byte(b)})
		wantSimple(t, text(api.PatAny, s+s), lit(s))
	}
	wantSimple(t, lit("zyzyx"), lit("zyzyx"))
	wantSimple(t, lit(full), lit(full))
	wantSimple(t, lit("\x00\xff\x00"), lit("\x00\xff\x00"))
}

func TestF1Numbers(t *testing.T) {
	for n := range 5 {
		for _, kind := range []int{api.PatLen, api.PatTab, api.PatRTab, api.PatPos, api.PatRPos} {
			want := number(kind, n)
			switch {
			case kind == api.PatLen && n == 0:
				want = lit("")
			case kind == api.PatRTab && n == 0:
				want = bare(api.PatRem)
			}
			wantSimple(t, number(kind, n), want)
			wantSimple(t, number(kind, api.MaxText-n), number(kind, api.MaxText-n))
		}
	}
}

func TestF1Arbno(t *testing.T) {
	wantSimples(t, [][2]string{
		{"ARBNO(FAIL)", "''"},
		{"ARBNO('')", "''"},
		{"ARBNO(LEN(0))", "''"},
		{"ARBNO(LEN(1))", "ARB"},
		{"ARBNO(LEN(2))", "ARBNO(LEN(2))"},
		{"ARBNO(ABORT)", "ARBNO(ABORT)"},
		{"ARBNO(FENCE)", "ARBNO(FENCE)"},
		{"ARBNO(ARB)", "ARBNO(ARB)"},
		{"ARBNO(POS(0))", "ARBNO(POS(0))"},
		{"ARBNO(@X)", "ARBNO(@X)"},
		{"ARBNO(TAB(1))", "ARBNO(TAB(1))"},
		{"ARBNO('a')", "ARBNO('a')"},
		{"ARBNO(ANY('aa'))", "ARBNO('a')"},
		{"ARBNO('a' | 'b')", "ARBNO(ANY('ab'))"},
		{"ARBNO('a' 'b')", "ARBNO('ab')"},
		// kids that become something else first
		{"ARBNO('' '')", "''"},
		{"ARBNO('' LEN(0))", "''"},
		{"ARBNO(FAIL 'a')", "''"},
		{"ARBNO('a' FAIL)", "ARBNO('a' FAIL)"},
		{"ARBNO(FAIL | FAIL)", "''"},
		{"ARBNO(FAIL | '')", "''"},
		{"ARBNO(FAIL . X)", "''"},
		{"ARBNO('' . X)", "ARBNO('' . X)"},
		{"ARBNO(LEN(1) '')", "ARB"},
		{"ARBNO(LEN(0) LEN(1))", "ARB"},
		{"ARBNO(LEN(1) LEN(1))", "ARBNO(LEN(2))"},
		{"ARBNO(LEN(1) | FAIL)", "ARB"},
		{"ARBNO(LEN(1) . X)", "ARBNO(LEN(1) . X)"},
		{"ARBNO(ARBNO(FAIL))", "''"},
		{"ARBNO(ARBNO(LEN(1)))", "ARBNO(ARB)"},
		{"ARBNO(ARBNO(ABORT))", "ARBNO(ARBNO(ABORT))"},
	})
}

func TestF1CondAndImm(t *testing.T) {
	wantSimples(t, [][2]string{
		{"FAIL . X", "FAIL"},
		{"FAIL $ X", "FAIL"},
		{"ABORT . X", "ABORT"},
		{"ABORT $ X", "ABORT"},
		{"FAIL . X $ Y . Z", "FAIL"},
		{"ABORT $ X . Y", "ABORT"},
		{"(FAIL 'a') . X", "FAIL"},
		{"(ABORT 'a') $ X", "ABORT"},
		{"(FAIL | FAIL) $ X", "FAIL"},
		{"(ABORT | 'a') . X", "ABORT"},
		{"('a' FAIL) . X", "('a' FAIL) . X"},
		{"('a' ABORT) $ X", "('a' ABORT) $ X"},
		{"FENCE . X", "FENCE . X"},
		{"'' $ X", "'' $ X"},
		{"LEN(0) . X", "'' . X"},
		{"('a' 'b') . X", "'ab' . X"},
		{"('a' | 'b') $ X . Y", "ANY('ab') $ X . Y"},
		{"('a' ('b' 'c') ARB) . X", "('abc' ARB) . X"},
	})
}

func TestF1Cat(t *testing.T) {
	wantSimples(t, [][2]string{
		{"'a' 'b'", "'ab'"},
		{"'a' 'b' 'c'", "'abc'"},
		{"'b' 'a' 'b'", "'bab'"},
		{"'a' ARB 'b'", "'a' ARB 'b'"},
		{"ARB ARB", "ARB ARB"},
		{"REM REM", "REM REM"},
		{"TAB(1) TAB(2)", "TAB(1) TAB(2)"},
		{"RTAB(2) RTAB(1)", "RTAB(2) RTAB(1)"},
		{"POS(1) POS(1)", "POS(1) POS(1)"},
		{"SPAN('a') SPAN('a')", "SPAN('a') SPAN('a')"},
		{"ANY('ab') ANY('cd')", "ANY('ab') ANY('cd')"},
		{"ANY('a') ANY('b')", "'ab'"},
		{"*A *A", "*A *A"},
		{"'a' . X 'b' . X", "'a' . X 'b' . X"},
		{"'a' LEN(1)", "'a' LEN(1)"},
		{"'a' 'b' LEN(1) LEN(2) 'c' 'd' 'e'", "'ab' LEN(3) 'cde'"},
		{"LEN(2) LEN(3) 'a' 'b'", "LEN(5) 'ab'"},
		{"ARB 'a' 'b' ARB 'c' 'd'", "ARB 'ab' ARB 'cd'"},
		// no bytes
		{"'' ''", "''"},
		{"'' '' ''", "''"},
		{"'' 'a'", "'a'"},
		{"'a' ''", "'a'"},
		{"'a' '' 'b'", "'ab'"},
		{"LEN(1) '' LEN(1)", "LEN(2)"},
		{"LEN(0) LEN(0)", "''"},
		{"LEN(0) 'a' LEN(0)", "'a'"},
		{"LEN(1) LEN(0) LEN(1)", "LEN(2)"},
		{"'' ARB", "ARB"},
		{"'' ARB ''", "ARB"},
		{"ARB '' ARB", "ARB ARB"},
		{"'a' ARBNO('') 'b'", "'ab'"},
		{"'a' POS(0) 'b'", "'a' POS(0) 'b'"},
		{"'a' @X 'b'", "'a' @X 'b'"},
		{"'a' FENCE 'b'", "'a' FENCE 'b'"},
		{"'a' '' . X 'b'", "'a' '' . X 'b'"},
		{"'a' ('' | 'c') 'b'", "'a' ('' | 'c') 'b'"},
	})
}

func TestF1CatWithinCat(t *testing.T) {
	wantSimples(t, [][2]string{
		{"('a' 'b') 'c'", "'abc'"},
		{"'a' ('b' 'c')", "'abc'"},
		{"(ARB REM) BAL", "ARB REM BAL"},
		{"ARB (REM BAL)", "ARB REM BAL"},
		{"(ARB REM) (BAL FENCE)", "ARB REM BAL FENCE"},
		{"((ARB REM) BAL) FENCE", "ARB REM BAL FENCE"},
		{"ARB (REM (BAL (FENCE POS(1))))", "ARB REM BAL FENCE POS(1)"},
		{"('a' ARB) ('b' REM)", "'a' ARB 'b' REM"},
		{"(ARB 'a') ('b' REM)", "ARB 'ab' REM"},
		{"(ARB LEN(1)) (LEN(2) REM)", "ARB LEN(3) REM"},
		{"(ARB 'a') '' ('b' REM)", "ARB 'ab' REM"},
		{"(ARB ('a' 'b')) (('c' 'd') REM)", "ARB 'abcd' REM"},
		// that come to be so only as kids are made simpler
		{"(ARB REM | FAIL) BAL", "ARB REM BAL"},
		{"BAL (FAIL | ARB 'a' | FAIL) 'b'", "BAL ARB 'ab'"},
		{"'a' (FAIL | FAIL) 'b'", "'a' FAIL"},
		{"'a' ('' (ARB REM)) 'b'", "'a' ARB REM 'b'"},
		{"'a' (('' 'b') | FAIL) 'c'", "'abc'"},
		{"'a' (ABORT | 'b') 'c'", "'a' ABORT"},
		{"(ARB REM) . X BAL", "(ARB REM) . X BAL"},
		{"ARBNO(ARB REM) BAL", "ARBNO(ARB REM) BAL"},
		{"(ARB REM | BAL) FENCE", "(ARB REM | BAL) FENCE"},
	})
}

func TestF1CatEnds(t *testing.T) {
	for _, end := range []string{"FAIL", "ABORT"} {
		for _, c := range [][2]string{
			{"? 'a' 'b'", "?"},
			{"ARB ? 'b'", "ARB ?"},
			{"ARB 'a' ?", "ARB 'a' ?"},
			{"'a' 'b' ? 'c' 'd'", "'ab' ?"},
			{"LEN(1) LEN(1) ? LEN(1)", "LEN(2) ?"},
			{"'' ?", "?"},
			{"'' ? ''", "?"},
			{"? ?", "?"},
			{"'a' ? ?", "'a' ?"},
			{"? FAIL", "?"},
			{"? ABORT", "?"},
			{"? . X ARB", "?"},
			{"ARB ? $ X REM", "ARB ?"},
			{"(ARB ?) REM", "ARB ?"},
			{"(ARB ? 'a') (REM BAL)", "ARB ?"},
			{"ARB (REM ?) BAL", "ARB REM ?"},
			{"ARB (? REM) BAL", "ARB ?"},
			{"@X ? @Y", "@X ?"},
			{"'a' $ X ? *P", "'a' $ X ?"},
			{"ARB ARBNO(? REM) BAL", "ARB ARBNO(?) BAL"},
			{"('a' | ?) 'b'", "('a' | ?) 'b'"},
		} {
			p, want := pat(strings.ReplaceAll(c[0], "?", end)), strings.ReplaceAll(c[1], "?", end)
			switch want { // what they become is not the same of both in these
			case "ARB ARBNO(FAIL) BAL":
				want = "ARB BAL"
			case "('a' | FAIL) 'b'":
				want = "'ab'"
			}
			wantSimple(t, p, pat(want))
		}
	}
	wantSimple(t, pat("'a' FAIL ABORT"), pat("'a' FAIL"))
	wantSimple(t, pat("'a' ABORT FAIL"), pat("'a' ABORT"))
}

// Neighbours become one from the left on: what does not go together with what is ahead may still do so with what is behind.
func TestF1CatUpToMaxText(t *testing.T) {
	most := api.MaxText
	for _, c := range []struct{ lengths, want []int }{
		{[]int{most}, []int{most}},
		{[]int{most - 1, 1}, []int{most}},
		{[]int{1, most - 1}, []int{most}},
		{[]int{most / 2, most / 2}, []int{most}},
		{[]int{most, 1}, []int{most, 1}},
		{[]int{1, most}, []int{1, most}},
		{[]int{most / 2, most/2 + 1}, []int{most / 2, most/2 + 1}},
		{[]int{most, most}, []int{most, most}},
		{[]int{most - 2, 1, 1}, []int{most}},
		{[]int{most - 2, 1, 1, 1}, []int{most, 1}},
		{[]int{most - 1, 1, 1, 1}, []int{most, 2}},
		{[]int{most, 1, 1, 1}, []int{most, 3}},
		{[]int{most - 1, 2, 1}, []int{most - 1, 3}}, // the third one would go together with the first one, but is no neighbour
		{[]int{1, most, 1}, []int{1, most, 1}},
		{[]int{1, 1, most, 1, 1}, []int{2, most, 2}},
		{[]int{40000, 40000, 25536, 1, 2}, []int{40000, 65536, 3}},
		{[]int{40000, 40000, 25537, 1, 2}, []int{40000, 40000, 25540}},
		{[]int{30000, 30000, 30000, 30000, 30000}, []int{60000, 60000, 30000}},
	} {
		lits, lens, wantLits, wantLens := cat(lit("")), cat(lit("")), cat(), cat()
		for i, n := range c.lengths {
			lits.Kids = append(lits.Kids, lit(strings.Repeat(string(rune('a'+i)), n)))
			lens.Kids = append(lens.Kids, length(n))
		}
		all := ""
		for _, kid := range lits.Kids {
			all += kid.Text
		}
		for _, n := range c.want {
			wantLits.Kids = append(wantLits.Kids, lit(all[:n]))
			all = all[n:]
			wantLens.Kids = append(wantLens.Kids, length(n))
		}
		if len(c.want) == 1 {
			wantLits, wantLens = wantLits.Kids[0], wantLens.Kids[0]
		}
		wantSimple(t, lits, wantLits)
		wantSimple(t, lens, wantLens)
	}
}

// Texts that did not go together within may do so without.
func TestF1CatWithinCatUpToMaxText(t *testing.T) {
	long, rest := strings.Repeat("a", api.MaxText-2), strings.Repeat("c", 3)
	wantSimple(t, cat(lit("b"), cat(lit(long), lit(rest))), cat(lit("b"+long), lit(rest)))
	wantSimple(t, cat(cat(lit(long), lit(rest)), lit("b")), cat(lit(long), lit(rest+"b")))
	wantSimple(t, cat(cat(length(1), length(65535)), cat(length(65535), length(1))), cat(length(65536), length(65536)))
	wantSimple(t, cat(length(1), cat(length(65535), length(2)), length(65534)), cat(length(65536), length(65536)))
}

// Very many neighbours become one.
func TestF1ManyNeighbours(t *testing.T) {
	lits, lens, alts := cat(), cat(), alt()
	for i := range api.MaxNodes - 1 {
		lits.Kids = append(lits.Kids, lit("0123456789abcdef"))
		lens.Kids = append(lens.Kids, length(16))
		alts.Kids = append(alts.Kids, lit(string([]byte{byte(i)})))
	}
	wantSimple(t, lits, lit(strings.Repeat("0123456789abcdef", api.MaxNodes-1)))
	wantSimple(t, lens, length(16*(api.MaxNodes-1)))
	var all []byte
	for b := range 256 {
		all = append(all, byte(b))
	}
	want := alt()
	for range 15 {
		want.Kids = append(want.Kids, text(api.PatAny, string(all)))
	}
	want.Kids = append(want.Kids, text(api.PatAny, string(all[:255])))
	wantSimple(t, alts, want)
}

func TestF1Alt(t *testing.T) {
	wantSimples(t, [][2]string{
		{"'a' | 'b'", "ANY('ab')"},
		{"'b' | 'a'", "ANY('ab')"},
		{"'c' | 'a' | 'b'", "ANY('abc')"},
		{"'a' | 'a'", "'a' | 'a'"},
		{"ANY('aa') | 'b'", "ANY('ab')"},
		{"ANY('aa') | 'a'", "'a' | 'a'"},
		{"ANY('bd') | 'c'", "ANY('bcd')"},
		{"'c' | ANY('bd')", "ANY('bcd')"},
		{"ANY('bd') | ANY('ca')", "ANY('abcd')"},
		{"ANY('ab') | 'b'", "ANY('ab') | 'b'"},
		{"'b' | ANY('ab')", "'b' | ANY('ab')"},
		{"ANY('ab') | ANY('bc')", "ANY('ab') | ANY('bc')"},
		{"ANY('ab') | ANY('ab')", "ANY('ab') | ANY('ab')"},
		{"ANY('ab') | ANY('bc') | 'd'", "ANY('ab') | ANY('bcd')"},
		{"ANY('ab') | ANY('bc') | 'a'", "ANY('ab') | ANY('abc')"},
		{"'a' | 'b' | 'a' | 'b'", "ANY('ab') | ANY('ab')"},
		{"'a' | 'b' | 'b' | 'a'", "ANY('ab') | ANY('ab')"},
		{"'a' | ANY('bc') | 'c'", "ANY('abc') | 'c'"},
		{"'a' | 'b' | 'cd' | 'e'", "ANY('ab') | 'cd' | 'e'"},
		{"'a' | 'b' | 'cd' | 'e' | 'f'", "ANY('ab') | 'cd' | ANY('ef')"},
		{"'a' | '' | 'b'", "'a' | '' | 'b'"},
		{"'' | 'a'", "'' | 'a'"},
		{"'a' | ''", "'a' | ''"},
		{"'' | ''", "'' | ''"},
		{"'ab' | 'cd'", "'ab' | 'cd'"},
		{"'a' | 'bc'", "'a' | 'bc'"},
		{"'a' | NOTANY('a')", "'a' | NOTANY('a')"},
		{"'a' | SPAN('b')", "'a' | SPAN('b')"},
		{"LEN(1) | LEN(1)", "LEN(1) | LEN(1)"},
		{"LEN(0) | 'a'", "'' | 'a'"},
		{"ARB | ARB", "ARB | ARB"},
		{"'a' . X | 'b' . X", "'a' . X | 'b' . X"},
		{"'a' | 'b' . X | 'c'", "'a' | 'b' . X | 'c'"},
		{"'a' | FENCE | 'b'", "'a' | FENCE | 'b'"},
		{"*A | *A", "*A | *A"},
	})
}

func TestF1AltWithinAlt(t *testing.T) {
	wantSimples(t, [][2]string{
		{"('a' | 'b') | 'c'", "ANY('abc')"},
		{"(ARB | REM) | BAL", "ARB | REM | BAL"},
		{"ARB | (REM | BAL)", "ARB | REM | BAL"},
		{"(ARB | REM) | (BAL | FENCE)", "ARB | REM | BAL | FENCE"},
		{"((ARB | REM) | BAL) | FENCE", "ARB | REM | BAL | FENCE"},
		{"ARB | (REM | (BAL | (FENCE | @X)))", "ARB | REM | BAL | FENCE | @X"},
		{"(ARB | 'a') | ('b' | REM)", "ARB | ANY('ab') | REM"},
		{"(ARB | 'a') | FAIL | ('b' | REM)", "ARB | ANY('ab') | REM"},
		{"(ARB | 'a') | ('a' | 'b')", "ARB | 'a' | ANY('ab')"},
		// what became one within may have a byte in common with what is without, of which a part of it has none
		{"'a' | ('b' | 'a')", "'a' | ANY('ab')"},
		// that come to be so only as kids are made simpler
		{"(ARB | REM) '' | BAL", "ARB | REM | BAL"},
		{"BAL | '' (ARB | 'a') | 'b'", "BAL | ARB | ANY('ab')"},
		{"(ARB | REM) . X | BAL", "(ARB | REM) . X | BAL"},
		{"ARBNO(ARB | REM) | BAL", "ARBNO(ARB | REM) | BAL"},
		{"(ARB | REM) FENCE | BAL", "(ARB | REM) FENCE | BAL"},
		{"'a' '' | 'b'", "ANY('ab')"},
		{"FAIL 'c' | 'a'", "'a'"},
	})
}

func TestF1AltEnds(t *testing.T) {
	wantSimples(t, [][2]string{
		{"FAIL | FAIL", "FAIL"},
		{"FAIL | FAIL | FAIL", "FAIL"},
		{"FAIL | 'a'", "'a'"},
		{"'a' | FAIL", "'a'"},
		{"'a' | FAIL | 'b'", "ANY('ab')"},
		{"FAIL | ARB | FAIL | REM | FAIL", "ARB | REM"},
		{"FAIL . X | 'a'", "'a'"},
		{"'a' | 'b' FAIL", "'a' | 'b' FAIL"},
		{"ABORT | 'a'", "ABORT"},
		{"ABORT | ABORT", "ABORT"},
		{"ABORT | FAIL", "ABORT"},
		{"FAIL | ABORT", "ABORT"},
		{"FAIL | ABORT | 'a'", "ABORT"},
		{"'a' | ABORT", "'a' | ABORT"},
		{"'a' | ABORT | 'b'", "'a' | ABORT"},
		{"'a' | 'b' | ABORT | 'c' | 'd'", "ANY('ab') | ABORT"},
		{"'a' | ABORT | ABORT", "'a' | ABORT"},
		{"'a' | FAIL | ABORT | FAIL", "'a' | ABORT"},
		{"'a' | ABORT . X | 'b'", "'a' | ABORT"},
		{"('a' | ABORT) | 'b'", "'a' | ABORT"},
		{"ARB | (REM | ABORT | BAL) | 'b'", "ARB | REM | ABORT"},
		{"'a' | 'b' ABORT | 'c'", "'a' | 'b' ABORT | 'c'"},
		{"'a' | ABORT 'b' | 'c'", "'a' | ABORT"},
		{"'a' | ARBNO(ABORT) | 'b'", "'a' | ARBNO(ABORT) | 'b'"},
	})
}

// All kinds in one, over and over within one another.
func TestF1Deep(t *testing.T) {
	wantSimples(t, [][2]string{
		{"'a' 'b' | FAIL", "'ab'"},
		{"('a' 'b' | FAIL) ('c' | FAIL '')", "'abc'"},
		{"ARBNO(('' | FAIL) (LEN(0) LEN(1) | FAIL))", "ARB"},
		{"(ARBNO(FAIL | FAIL 'x') ANY('a') | FAIL . V) 'b'", "'ab'"},
		{"('a' | 'b' | ANY('c')) ('' | FAIL) SPAN('zz')", "ANY('abc') SPAN('z')"},
		{"RTAB(0) | RTAB(0) RTAB(0)", "REM | REM REM"},
		{"((('a' . X) 'b') $ Y | FAIL) 'c'", "('a' . X 'b') $ Y 'c'"},
	})
	deep, want := lit("a"), "a"
	for range api.MaxDepth - 1 {
		deep, want = cat(deep, lit("b")), want+"b"
	}
	wantSimple(t, deep, lit(want))
	deep = text(api.PatAny, "ab")
	flat := alt(deep)
	for range api.MaxDepth - 1 {
		deep = alt(text(api.PatAny, "ab"), deep)
		flat.Kids = append(flat.Kids, flat.Kids[0])
	}
	wantSimple(t, deep, flat)
	deep = bare(api.PatFail)
	for range api.MaxDepth - 1 {
		deep = cond(deep, "X")
	}
	wantSimple(t, deep, bare(api.PatFail))
}

// wrongs are patterns with something wrong, and what.
func wrongs() map[string]struct {
	p   api.Pat
	err api.Errno
} {
	type wrong = struct {
		p   api.Pat
		err api.Errno
	}
	wide, deep := cat(), bare(api.PatArb)
	for range api.MaxNodes {
		wide.Kids = append(wide.Kids, bare(api.PatFail))
	}
	for range api.MaxDepth {
		deep = arbno(deep)
	}
	return map[string]wrong{
		"no kind":               {api.Pat{}, api.ErrKind},
		"kind 25":               {bare(25), api.ErrKind},
		"kind -1":               {bare(-1), api.ErrKind},
		"too many nodes":        {wide, api.ErrMuch},
		"too deep":              {deep, api.ErrMuch},
		"without an end":        {endless(api.PatCat, 2), api.ErrMuch},
		"a text too long":       {lit(over), api.ErrMuch},
		"bytes too many":        {text(api.PatSpan, over), api.ErrMuch},
		"no bytes of PatAny":    {text(api.PatAny, ""), api.ErrFit},
		"no bytes of PatBreakX": {text(api.PatBreakX, ""), api.ErrFit},
		"LEN below 0":           {length(-1), api.ErrRange},
		"LEN too great":         {length(api.MaxText + 1), api.ErrRange},
		"RTAB below 0":          {number(api.PatRTab, -1), api.ErrRange},
		"no name":               {cond(lit("a"), ""), api.ErrName},
		"a name that is none":   {cursor("x"), api.ErrName},
		"PatCat of nothing":     {cat(), api.ErrMany},
		"PatCat of one":         {cat(lit("a")), api.ErrMany},
		"PatAlt of one":         {alt(lit("a")), api.ErrMany},
		"PatArbno of nothing":   {bare(api.PatArbno), api.ErrMany},
		"PatArbno of two":       {api.Pat{Kind: api.PatArbno, Kids: []api.Pat{lit("a"), lit("b")}}, api.ErrMany},
		"PatFail with a kid":    {api.Pat{Kind: api.PatFail, Kids: []api.Pat{lit("a")}}, api.ErrMany},
		"PatCond of nothing":    {api.Pat{Kind: api.PatCond, Name: "X"}, api.ErrMany},
	}
}

// What is wrong is told ahead of all else, even of what would be left out, or never matches.
func TestF1Wrong(t *testing.T) {
	for what, w := range wrongs() {
		wantWrong(t, what, w.p, w.err)
		for _, around := range []api.Pat{
			cat(bare(api.PatFail), w.p), cat(w.p, bare(api.PatFail)), cat(bare(api.PatAbort), lit(""), w.p),
			alt(bare(api.PatAbort), w.p), alt(bare(api.PatFail), w.p), arbno(w.p), cond(w.p, "X"), imm(arbno(w.p), "X"),
			cat(lit("a"), alt(lit("b"), cat(lit("c"), w.p))),
		} {
			wantWrong(t, fmt.Sprintf("%s within kind %d", what, around.Kind), around, w.err)
		}
	}
	// A node is told ahead of its kids, the first kid first.
	wantWrong(t, "two that are wrong", cat(length(-1), text(api.PatAny, "")), api.ErrRange)
	wantWrong(t, "two that are wrong, the other way round", cat(text(api.PatAny, ""), length(-1)), api.ErrFit)
	wantWrong(t, "a name, and a kid", cond(length(-1), ""), api.ErrName)
}

// What stays stays in its order, whatever is left out between.
func TestF1OrderStays(t *testing.T) {
	leaves := []string{"ARB", "REM", "BAL", "FENCE", "POS(1)", "RPOS(1)", "TAB(1)", "RTAB(1)", "@X", "*P"}
	for i := range leaves {
		turned := slices.Concat(leaves[i:], leaves[:i])
		wantSimple(t, pat(strings.Join(turned, " '' ")), pat(strings.Join(turned, " ")))
		wantSimple(t, pat(strings.Join(turned, " | FAIL | ")), pat(strings.Join(turned, " | ")))
	}
}
