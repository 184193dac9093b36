package gram_test

import (
	"slices"
	"testing"

	"scanfail/api"
	"scanfail/gram"
	"scanfail/scan"
)

// dice tells numbers that look mixed, the same ones each time.
type dice uint64

func (d *dice) below(n int) int {
	*d ^= *d << 13
	*d ^= *d >> 7
	*d ^= *d << 17
	return int(uint64(*d) >> 11 % uint64(n))
}

// leaves are nodes without kids, of each kind that has ends.
func leaves() []api.Pat {
	var out []api.Pat
	for _, s := range []string{
		"'a'", "'b'", "'ab'", "''", "LEN(0)", "LEN(1)", "LEN(2)", "ANY('a')", "NOTANY('a')", "SPAN('ab')", "SPAN('a')", "BREAK('b')", "BREAKX('ab')", "BREAKX(')')",
		"TAB(1)", "TAB(2)", "RTAB(1)", "RTAB(0)", "POS(0)", "POS(1)", "RPOS(0)", "RPOS(1)", "REM", "ARB", "BAL", "FAIL", "@X", "*A", "*B", "*C",
	} {
		out = append(out, pat(s))
	}
	return out
}

// subjects are all texts of so many bytes at most, of these bytes.
func subjects(bytes string, most int) []string {
	out := []string{""}
	for from := 0; most > 0; most-- {
		end := len(out)
		for ; from < end; from++ {
			for i := range len(bytes) {
				out = append(out, out[from]+bytes[i:i+1])
			}
		}
	}
	return out
}

// wantAsModel holds Ends, at each place and beside them, against the model.
func wantAsModel(t *testing.T, l []api.Rule, p api.Pat, subject string) {
	t.Helper()
	for at := -1; at <= len(subject)+1; at++ {
		if want, err := modelEnds(l, p, subject, at); err != api.OK {
			wantNoEnds(t, told(l, p), l, p, subject, at, err)
		} else {
			wantEnds(t, l, p, subject, at, want...)
		}
	}
}

// Two nodes together, in each way in which two can be, in some short texts.
func TestH2Pairs(t *testing.T) {
	l := rules("A := *A 'a' | ''", "B := '(' *B . X ')' | ARB $ Y", "C := *B *C | 'b'")
	few := []string{"", "a", "ab", "()", "aab", "a)b", "(b)", "aba"}
	turn := 0
	for _, a := range leaves() {
		for _, b := range leaves() {
			for _, p := range []api.Pat{cat(a, b), alt(a, b), cat(arbno(a), b), arbno(cat(a, b)), arbno(alt(a, b)), cat(alt(a, b), b)} {
				turn++
				s := few[turn%len(few)]
				at := turn / 8 % (len(s) + 1)
				want, err := modelEnds(l, p, s, at)
				if err != api.OK {
					t.Fatalf("the model's error %d", err)
				}
				wantEnds(t, l, p, s, at, want...)
			}
		}
		if t.Failed() {
			return
		}
	}
}

// Each node alone, in all short texts, at each place.
func TestH2Alone(t *testing.T) {
	l := rules("A := *A 'a' | 'b'", "B := '(' *B ')' *B | ''", "C := *C *C | LEN(2)")
	for _, s := range subjects("ab()", 4) {
		for _, p := range leaves() {
			wantAsModel(t, l, p, s)
		}
		if t.Failed() {
			return
		}
	}
}

// mixed is some pattern with nothing wrong, at most so deep.
func mixed(d *dice, small []api.Pat, depth int) api.Pat {
	if depth == 1 || d.below(4) == 0 {
		return small[d.below(len(small))]
	}
	names := []string{"X", "Y", "LONGNAME"}
	switch d.below(7) {
	case 0:
		return arbno(mixed(d, small, depth-1))
	case 1:
		return cond(mixed(d, small, depth-1), names[d.below(3)])
	case 2:
		return imm(mixed(d, small, depth-1), names[d.below(3)])
	}
	p := api.Pat{Kind: api.PatCat + d.below(2)}
	for range 2 + d.below(3) {
		p.Kids = append(p.Kids, mixed(d, small, depth-1))
	}
	return p
}

// mixedRules are up to four rules, mostly A, B, C and D.
func mixedRules(d *dice, small []api.Pat) []api.Rule {
	var out []api.Rule
	for _, name := range names("A B C D") {
		if d.below(12) > 0 {
			out = append(out, rule(name, mixed(d, small, 4)))
		}
	}
	if d.below(2) == 0 {
		slices.Reverse(out)
	}
	return out
}

// callers are leaves that call, more often than others.
func callers() []api.Pat {
	out := leaves()
	for range 4 {
		out = append(out, pat("*A"), pat("*B"), pat("*C"), pat("*D"), lit("a"), lit("b"), lit(""))
	}
	return out
}

// Patterns and rules of all kinds, within one another.
func TestH1H2H3Mixed(t *testing.T) {
	small := callers()
	rare := append(callers(), bare(api.PatFence), bare(api.PatAbort), call("NOBODY"))
	all := subjects("ab()", 6)
	d := dice(7)
	counts := map[api.Errno]int{}
	for i := range 6000 {
		from := small
		if i%3 == 0 {
			from = rare
		}
		l, p := mixedRules(&d, from), mixed(&d, from, 4)
		s := all[d.below(len(all))]
		at := d.below(len(s) + 1)
		wantReach(t, l, p, modelReach(l, p))
		wantLeft(t, l, modelLeft(l))
		want, err := modelEnds(l, p, s, at)
		if err == api.OK {
			wantEnds(t, l, p, s, at, want...)
		} else {
			wantNeither(t, told(l, p), l, p, err)
		}
		counts[err]++
		if t.Failed() {
			return
		}
	}
	if counts[api.OK] < 2000 || counts[api.ErrName] < 500 || counts[api.ErrKind] < 200 {
		t.Errorf("the patterns are not mixed: %v", counts)
	}
}

// Longer texts, of rules alone that call one another in all ways.
func TestH2Grammars(t *testing.T) {
	small := []api.Pat{pat("*A"), pat("*B"), pat("*C"), pat("*A"), pat("*B"), pat("*C"), lit("a"), lit("b"), lit(""), lit("ab"), pat("LEN(1)"), pat("'a' *A"), pat("*B 'b'"), pat("ARBNO(*C)")}
	d := dice(19)
	found := 0
	for range 1500 {
		l := []api.Rule{rule("A", alt(mixed(&d, small, 4), lit("a"))), rule("B", alt(mixed(&d, small, 3), cat(call("A"), lit("b")))), rule("C", mixed(&d, small, 4))}
		var s []byte
		for range d.below(16) {
			s = append(s, "aab"[d.below(3)])
		}
		for _, p := range []api.Pat{call("A"), cat(call("B"), call("C"))} {
			want, err := modelEnds(l, p, string(s), 0)
			if err != api.OK {
				t.Fatalf("the model's error %d", err)
			}
			wantEnds(t, l, p, string(s), 0, want...)
			found += len(want)
		}
		if t.Failed() {
			return
		}
	}
	if found < 5000 {
		t.Errorf("only %d ends were found", found)
	}
}

// Ends tells just where the ways of chapter 5 end, where all of them can be gone through.
func TestH2AsWays(t *testing.T) {
	small := callers()
	all := subjects("ab()", 6)
	d := dice(11)
	through, ends := 0, 0
	for range 15000 {
		l, p := mixedRules(&d, small), mixed(&d, small, 4)
		s := all[d.below(len(all))]
		at := d.below(len(s) + 1)
		ways, cut, err := scan.Ways(l, p, s, at, api.MaxWays, 2000)
		if err != api.OK || len(ways) == api.MaxWays {
			continue
		}
		if _, err := gram.Reach(l, p); err != api.OK {
			t.Fatalf("Reach of %s: error %d", told(l, p), err)
		}
		if got, err := gram.Ends(l, p, s, at); err == api.ErrName && len(got) == 0 {
			continue // a name that the ways do not come to
		}
		var want []int
		for _, w := range ways {
			want = append(want, w.To)
		}
		slices.Sort(want)
		want = slices.Compact(want)
		wantEnds(t, l, p, s, at, want...)
		through++
		ends += len(want)
		if cut || t.Failed() {
			t.Fatalf("Ways of %s: cut %t", told(l, p), cut)
		}
	}
	if through < 4000 || ends < 4000 {
		t.Errorf("only %d patterns could be gone through, with %d ends", through, ends)
	}
}
