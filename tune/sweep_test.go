package tune_test

import (
	"slices"
	"testing"

	"scanfail/api"
	"scanfail/pats"
	"scanfail/scan"
	"scanfail/sets"
	"scanfail/tune"
)

// dice tells numbers that look mixed, the same ones each time.
type dice uint64

func (d *dice) below(n int) int {
	*d ^= *d << 13
	*d ^= *d >> 7
	*d ^= *d << 17
	return int(uint64(*d) >> 11 % uint64(n))
}

// leaves are nodes without kids, of each kind; those that become something else are there more than once.
func leaves() []api.Pat {
	var out []api.Pat
	for _, s := range []string{
		"'a'", "'b'", "'ab'", "'c'", "'ba'", "''", "''", "LEN(0)", "LEN(1)", "LEN(2)", "ANY('a')", "ANY('bb')", "ANY('ba')", "ANY('cb')", "NOTANY('ba')", "SPAN('ba')", "SPAN('aa')", "BREAK('b')", "BREAKX('ba')",
		"TAB(1)", "TAB(2)", "RTAB(1)", "RTAB(0)", "POS(0)", "POS(1)", "RPOS(0)", "RPOS(1)", "REM", "ARB", "BAL", "FAIL", "FAIL", "FAIL", "FENCE", "ABORT", "@X", "*A", "*P",
	} {
		out = append(out, pat(s))
	}
	return out
}

// mixed is some pattern with nothing wrong, at most so deep.
func mixed(d *dice, small []api.Pat, depth int) api.Pat {
	if depth == 1 || d.below(4) == 0 {
		return small[d.below(len(small))]
	}
	names := []string{"X", "Y", "LONGNAME"}
	switch d.below(8) {
	case 0, 1:
		return arbno(mixed(d, small, depth-1))
	case 2:
		return cond(mixed(d, small, depth-1), names[d.below(3)])
	case 3:
		return imm(mixed(d, small, depth-1), names[d.below(3)])
	}
	p := api.Pat{Kind: api.PatCat + d.below(2)}
	for range 2 + d.below(3) {
		p.Kids = append(p.Kids, mixed(d, small, depth-1))
	}
	return p
}

// wantAsModel holds all three against their models.
func wantAsModel(t *testing.T, p api.Pat) {
	t.Helper()
	wantSimple(t, p, modelSimple(p))
	least, most, err := modelLength(p)
	if err == api.OK {
		wantLength(t, p, least, most)
	} else {
		wantNever(t, p)
	}
	var s []byte
	for b := range 256 {
		if modelBegins(p, byte(b)) {
			s = append(s, byte(b))
		}
	}
	wantFirst(t, p, sets.Of(string(s)), modelNull(p))
}

// Two nodes together, in each way in which two can be.
func TestF1Pairs(t *testing.T) {
	for _, a := range leaves() {
		for _, b := range leaves() {
			for _, p := range []api.Pat{
				cat(a, b), alt(a, b), cat(arbno(a), b), arbno(cat(a, b)), arbno(alt(a, b)), alt(cond(a, "V"), imm(b, "W")), cat(alt(a, b), b), alt(b, cat(a, b)), cat(a, cat(b, a)), alt(a, alt(b, a)),
			} {
				wantAsModel(t, p)
			}
		}
		if t.Failed() {
			return
		}
	}
}

func TestF1Mixed(t *testing.T) {
	small := append(leaves(), length(65535), length(65536), length(32768))
	d := dice(11)
	changed := 0
	for range 40000 {
		p := mixed(&d, small, 5)
		wantAsModel(t, p)
		if !same(p, modelSimple(p)) {
			changed++
		}
		if t.Failed() {
			return
		}
	}
	if changed < 10000 {
		t.Errorf("the patterns are not mixed: %d of 40000 become others", changed)
	}
}

// sameWays tells whether ways end at the same places, and give the same.
func sameWays(a, b []api.Way) bool {
	return slices.EqualFunc(a, b, func(x, y api.Way) bool { return x.To == y.To && slices.Equal(x.Given, y.Given) })
}

// matchesAs asks of a pattern and a simpler one: all ways, in order, and what is told; and it takes no longer. It tells whether there was something to ask.
func matchesAs(t *testing.T, l []api.Rule, p, simple api.Pat, subject string) bool {
	t.Helper()
	const fuel = 3000
	for at := range len(subject) + 1 {
		ways, cut, err := scan.Ways(l, p, subject, at, api.MaxWays, fuel)
		if err == api.ErrFuel {
			return false
		}
		got, gotCut, gotErr := scan.Ways(l, simple, subject, at, api.MaxWays, fuel)
		if !sameWays(got, ways) || gotCut != cut || gotErr != err {
			t.Errorf("%s, made simpler %s, in %q at %d: ways %v, %t, error %d; want %v, %t, error %d", tell(p), tell(simple), subject, at, got, gotCut, gotErr, ways, cut, err)
		}
		fitsWays(t, p, subject, at, ways)
	}
	for _, anchored := range []bool{false, true} {
		want, err := scan.Match(l, p, subject, anchored, fuel)
		if err == api.ErrFuel {
			return false
		}
		got, gotErr := scan.Match(l, simple, subject, anchored, fuel)
		if gotErr != err || got.Found != want.Found || got.From != want.From || got.To != want.To || got.Ticks > want.Ticks || !slices.Equal(got.Given, want.Given) || !slices.Equal(got.Said, want.Said) {
			t.Errorf("%s, made simpler %s, in %q: match %+v, error %d; want %+v, error %d", tell(p), tell(simple), subject, got, gotErr, want, err)
		}
	}
	return true
}

// fitsWays asks whether ways of p are such as Length and First tell.
func fitsWays(t *testing.T, p api.Pat, subject string, at int, ways []api.Way) {
	t.Helper()
	least, most, err := tune.Length(p)
	if err == api.ErrNone && len(ways) > 0 {
		t.Errorf("%s, which is told never to match, matches %q at %d", tell(p), subject, at)
	}
	s, null, _ := tune.First(p)
	for _, w := range ways {
		n := w.To - at
		if n < least || most >= 0 && n > most {
			t.Errorf("%s in %q at %d: a way to %d; Length tells %d, %d", tell(p), subject, at, w.To, least, most)
		}
		if n == 0 && !null || n > 0 && !sets.Has(s, subject[at]) {
			t.Errorf("%s in %q at %d: a way to %d; First tells %s, %t", tell(p), subject, at, w.To, sets.Print(s), null)
		}
	}
}

// What is simpler matches the same, all ways and in order, and is never slower.
func TestF1MatchesTheSame(t *testing.T) {
	small := leaves()
	subjects := []string{"", "a", "b", "c", "ab", "ba", "aab", "abc", "cab", "(a)", "a(b", "bbaa", "abab", "(ab)c"}
	d := dice(5)
	asked := 0
	for i := range 20000 {
		l := []api.Rule{{Name: "A", Pat: mixed(&d, small, 2)}, {Name: "P", Pat: mixed(&d, small, 3)}}
		if i%7 == 0 {
			l = l[:1]
		}
		p := mixed(&d, small, 5)
		simple, err := tune.Simplify(p)
		if err != api.OK {
			t.Fatalf("Simplify of %s: error %d", tell(p), err)
		}
		before, _, _ := pats.Size(p)
		if after, _, _ := pats.Size(simple); after > before {
			t.Errorf("%s has %d nodes; made simpler, %s, it has %d", tell(p), before, tell(simple), after)
		}
		if matchesAs(t, l, p, simple, subjects[d.below(len(subjects))]) {
			asked++
		}
		if t.Failed() {
			return
		}
	}
	if asked < 15000 {
		t.Errorf("the patterns take too long: %d of 20000 could be asked", asked)
	}
}
