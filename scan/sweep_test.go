package scan_test

import (
	"testing"

	"scanfail/api"
	"scanfail/scan"
)

// dice tells numbers that look mixed, the same ones each time.
type dice uint64

func (d *dice) below(n int) int {
	*d ^= *d << 13
	*d ^= *d >> 7
	*d ^= *d << 17
	return int(uint64(*d) >> 11 % uint64(n))
}

// leaves are nodes without kids, of each kind.
func leaves() []api.Pat {
	var out []api.Pat
	for _, s := range []string{
		"'a'", "'b'", "'ab'", "''", "LEN(0)", "LEN(1)", "LEN(2)", "ANY('a')", "NOTANY('a')", "SPAN('ab')", "SPAN('a')", "BREAK('b')", "BREAKX('ab')", "BREAKX(')')",
		"TAB(1)", "TAB(2)", "RTAB(1)", "RTAB(0)", "POS(0)", "POS(1)", "RPOS(0)", "RPOS(1)", "REM", "ARB", "BAL", "FAIL", "FENCE", "ABORT", "@X", "*A", "*P", "*NOBODY",
	} {
		out = append(out, pat(s))
	}
	return out
}

// subjects are all texts of so many bytes at most, of these bytes.
func subjects(bytes string, most int) []string {
	out := []string{""}
	for from := 0; most > 0; most-- {
		end := len(out)
		for ; from < end; from++ {
			for i := range len(bytes) {
				out = append(out, out[from]+bytes[i:i+1])
			}
		}
	}
	return out
}

// wantAsModel holds Match and Ways against the model, with the fuel that it takes, with one less, and with some between.
func wantAsModel(t *testing.T, q question, at, most int) {
	t.Helper()
	for _, anchored := range []bool{false, true} {
		want, err := modelMatch(q, anchored)
		if err != api.OK {
			wantNoMatch(t, q, anchored, err)
			continue
		}
		wantMatch(t, q, anchored, want)
		if want.Ticks < q.fuel {
			less := q
			less.fuel = want.Ticks
			wantMatch(t, less, anchored, want)
			less.fuel--
			wantNoMatch(t, less, anchored, api.ErrFuel)
		}
	}
	ways, cut, err, ticks := modelWays(q, at, most)
	if err != api.OK {
		wantNoWays(t, q, at, most, err)
		return
	}
	wantWays(t, q, at, most, ways, cut)
	if ticks > 0 && ticks < q.fuel {
		q.fuel = ticks
		wantWays(t, q, at, most, ways, cut)
		q.fuel--
		wantNoWays(t, q, at, most, api.ErrFuel)
	}
}

var someRules = []string{"A := 'a' *A | ''", "P := '(' *P . X ')' | ARB $ Y", "L := *L 'a' | 'b'", "F := 'a' FENCE"}

// Two nodes together, in each way in which two can be, in all short texts.
func TestE2Pairs(t *testing.T) {
	l := rules(someRules...)
	few := []string{"", "a", "b", "ab", "ba", "aa", "()", "(a", "aab", "a)b", "aba", "(b)", ")(a"}
	for _, a := range leaves() {
		for _, b := range leaves() {
			for _, p := range []api.Pat{
				cat(a, b), alt(a, b), cat(arbno(a), b), arbno(cat(a, b)), arbno(alt(a, b)), alt(cond(a, "V"), imm(b, "W")), cat(imm(a, "V"), cond(b, "W")), cat(alt(a, b), b),
			} {
				for i, s := range few {
					wantAsModel(t, question{l, p, s, 200}, i%(len(s)+1), 1+i%5)
				}
			}
		}
		if t.Failed() {
			return
		}
	}
}

// Each node alone, in all short texts, at each place.
func TestE2Alone(t *testing.T) {
	l := rules(someRules...)
	for _, s := range subjects("ab()", 5) {
		for _, p := range leaves() {
			for at := range len(s) + 1 {
				q := question{l, p, s, 500}
				want, cut, err, _ := modelWays(q, at, 99)
				if err != api.OK {
					wantNoWays(t, q, at, 99, err)
				} else {
					wantWays(t, q, at, 99, want, cut)
				}
			}
		}
		if t.Failed() {
			return
		}
	}
}

// mixed is some pattern with nothing wrong, at most so deep.
func mixed(d *dice, small []api.Pat, depth int) api.Pat {
	if depth == 1 || d.below(4) == 0 {
		return small[d.below(len(small))]
	}
	names := []string{"X", "Y", "LONGNAME"}
	switch d.below(7) {
	case 0:
		return arbno(mixed(d, small, depth-1))
	case 1:
		return cond(mixed(d, small, depth-1), names[d.below(3)])
	case 2:
		return imm(mixed(d, small, depth-1), names[d.below(3)])
	}
	p := api.Pat{Kind: api.PatCat + d.below(2)}
	for range 2 + d.below(3) {
		p.Kids = append(p.Kids, mixed(d, small, depth-1))
	}
	return p
}

// Patterns and rules of all kinds, within one another.
func TestE2Mixed(t *testing.T) {
	small := leaves()
	for range 3 { // those that end a match, or its fuel, are to be rare
		small = append(small, leaves()[:26]...)
	}
	all := subjects("ab()", 6)
	d := dice(7)
	counts := map[api.Errno]int{}
	for range 30000 {
		l := []api.Rule{{Name: "A", Pat: mixed(&d, small, 3)}, {Name: "P", Pat: mixed(&d, small, 4)}}
		s := all[d.below(len(all))]
		q := question{l, mixed(&d, small, 5), s, []int{0, 1, 5, 30, 1000}[d.below(5)]}
		wantAsModel(t, q, d.below(len(s)+1), []int{0, 1, 2, 7, 50, api.MaxWays}[d.below(6)])
		_, err := scan.Match(q.rules, q.p, q.subject, false, q.fuel)
		counts[err]++
		if t.Failed() {
			return
		}
	}
	if counts[api.OK] < 1000 || counts[api.ErrFuel] < 1000 || counts[api.ErrName] < 100 {
		t.Errorf("the patterns are not mixed: %v", counts)
	}
}
