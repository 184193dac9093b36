package auto_test

import (
	"fmt"
	"testing"

	"scanfail/api"
	"scanfail/auto"
	"scanfail/scan"
)

// dice tells numbers that look mixed, the same ones each time.
type dice uint64

func (d *dice) below(n int) int {
	*d ^= *d << 13
	*d ^= *d >> 7
	*d ^= *d << 17
	return int(uint64(*d) >> 11 % uint64(n))
}

// leaves are nodes without kids, of each kind that is taken.
func leaves() []api.Pat {
	var out []api.Pat
	for _, s := range []string{"'a'", "'b'", "'ab'", "'ba'", "''", "'aab'", "'\xff'", "LEN(0)", "LEN(1)", "LEN(2)", "ANY('a')", "ANY('ab')", "ANY('bc\xff')", "NOTANY('a')", "NOTANY('ba')", "ARB", "FAIL"} {
		out = append(out, pat(s))
	}
	return out
}

// mixed is some pattern with nothing wrong, at most so deep.
func mixed(d *dice, small []api.Pat, depth int) api.Pat {
	if depth == 1 || d.below(4) == 0 {
		return small[d.below(len(small))]
	}
	if d.below(3) == 0 {
		return arbno(mixed(d, small, depth-1))
	}
	p := api.Pat{Kind: api.PatCat + d.below(2)}
	for range 2 + d.below(2) {
		p.Kids = append(p.Kids, mixed(d, small, depth-1))
	}
	return p
}

// placesOf counts by the words of the promise.
func placesOf(p api.Pat) int {
	n := 0
	each(p, func(node api.Pat) {
		switch node.Kind {
		case api.PatLit:
			n += len(node.Text)
		case api.PatLen:
			n += node.N
		case api.PatAny, api.PatNotAny, api.PatArb:
			n++
		}
	})
	return n
}

func each(p api.Pat, do func(node api.Pat)) {
	do(p)
	for _, kid := range p.Kids {
		each(kid, do)
	}
}

// wantAsScan asks whether what is made accepts just what scan finds a way for, from the beginning to the end.
func wantAsScan(t *testing.T, p api.Pat, a api.Auto, subject string) {
	t.Helper()
	ways, cut, err := scan.Ways(nil, p, subject, 0, api.MaxWays, api.MaxFuel)
	if err != api.OK || cut || len(ways) == api.MaxWays {
		return // it takes too long to say
	}
	whole := false
	for _, w := range ways {
		whole = whole || w.To == len(subject)
	}
	wantAccepts(t, a, subject, whole)
}

// wantAsModels asks all that is told of one automaton.
func wantAsModels(t *testing.T, a api.Auto) {
	t.Helper()
	if s, ok := modelShortest(a); ok {
		wantShortest(t, a, s)
		wantAccepts(t, a, s, true)
	} else {
		wantNoShortest(t, a)
	}
	for n := range 8 {
		wantCount(t, a, n, modelCount(a, n))
	}
	b, err := auto.Not(a)
	if err != api.OK {
		t.Errorf("Not of %s: error %d", tellAuto(a), err)
		return
	}
	wantLeast(t, b)
	wantPair(t, "Not", a, a, b, func(x, y bool) bool { return !x })
}

// wantTogether asks what is made of two automata.
func wantTogether(t *testing.T, a, b api.Auto) {
	t.Helper()
	both, err := auto.Both(a, b)
	either, err2 := auto.Either(a, b)
	if err != api.OK || err2 != api.OK {
		t.Errorf("Both and Either of %s and %s: errors %d and %d", tellAuto(a), tellAuto(b), err, err2)
		return
	}
	wantLeast(t, both)
	wantLeast(t, either)
	wantPair(t, "Both", a, b, both, func(x, y bool) bool { return x && y })
	wantPair(t, "Either", a, b, either, func(x, y bool) bool { return x || y })
}

func TestG3Mixed(t *testing.T) {
	small := leaves()
	subjects := []string{"", "a", "b", "c", "\xff", "ab", "ba", "aa", "aab", "aba", "abc", "bab\xff", "aabaab", "abababa"}
	d := dice(7)
	last := nothing
	taken, great := 0, 0
	for range 2500 {
		p := mixed(&d, small, 5)
		if placesOf(p) > api.MaxPlaces {
			wantNotMade(t, tell(p), p, api.ErrMuch)
			continue
		}
		a, err := auto.Make(p)
		if err != api.OK {
			t.Fatalf("Make of %s: error %d", tell(p), err)
		}
		taken++
		great = max(great, len(a.Next))
		wantLeast(t, a)
		wantTakes(t, p, a)
		for range 4 {
			wantAsScan(t, p, a, subjects[d.below(len(subjects))])
		}
		wantAsModels(t, a)
		wantTogether(t, a, last)
		last = a
		if t.Failed() {
			return
		}
	}
	if taken < 1000 || great < 12 {
		t.Errorf("the patterns are not mixed: %d of 2500 were taken, the greatest automaton has %d states", taken, great)
	}
}

// Two nodes together, in each way in which two can be.
func TestG3Pairs(t *testing.T) {
	for _, x := range leaves() {
		for _, y := range leaves() {
			for _, p := range []api.Pat{cat(x, y), alt(x, y), arbno(cat(x, y)), arbno(alt(x, y)), cat(arbno(x), y), cat(x, arbno(y)), alt(arbno(x), y), cat(x, y, x), arbno(cat(arbno(x), arbno(y))), cat(alt(x, y), y)} {
				a, err := auto.Make(p)
				if err != api.OK {
					t.Fatalf("Make of %s: error %d", tell(p), err)
				}
				wantLeast(t, a)
				wantTakes(t, p, a)
				for _, s := range []string{"", "a", "ab", "ba", "aab", "abab"} {
					wantAsScan(t, p, a, s)
				}
			}
		}
		if t.Failed() {
			return
		}
	}
}

// some is some automaton with nothing wrong: with so many states and classes, of which some bytes have one, and all others one.
func some(d *dice, states, classes int) api.Auto {
	var a api.Auto
	rest := d.below(classes)
	for b := range a.Class {
		a.Class[b] = rest
	}
	for _, b := range []int{0, 1, 'a', 'b', 'c', 'd', 127, 128, 254, 255} {
		a.Class[b] = d.below(classes)
	}
	few := 1 + d.below(4) // how likely a text may end
	for range states {
		var row []int
		for range classes {
			row = append(row, d.below(states))
		}
		a.Next, a.Ends = append(a.Next, row), append(a.Ends, d.below(few+1) == 0)
	}
	return a
}

// twice is an automaton that accepts the same, with states and classes that are there more than once.
func twice(d *dice, a api.Auto) api.Auto {
	n, classes := len(a.Next), len(a.Next[0])
	out := api.Auto{Ends: append(append([]bool{}, a.Ends...), a.Ends...)}
	for b, c := range a.Class {
		out.Class[b] = c + classes*d.below(2)
	}
	for s := range 2 * n {
		var row []int
		for c := range 2 * classes {
			row = append(row, a.Next[s%n][c%classes]+n*d.below(2))
		}
		out.Next = append(out.Next, row)
	}
	return out
}

func TestG4Mixed(t *testing.T) {
	d := dice(3)
	last := anything
	reached := 0
	for i := range 4000 {
		a := some(&d, 1+d.below(10), 1+d.below(5))
		wantAsModels(t, a)
		wantTogether(t, a, last)
		small, err := auto.Either(a, a)
		if err != api.OK {
			t.Fatalf("Either of %s and itself: error %d", tellAuto(a), err)
		}
		reached = max(reached, len(small.Next))
		b := twice(&d, a)
		again, err := auto.Both(b, a)
		wantAuto(t, fmt.Sprintf("Both of %s and the same twice, %d", tellAuto(a), i), again, err, small)
		last = a
		if t.Failed() {
			return
		}
	}
	if reached < 8 {
		t.Errorf("the automata are not mixed: the greatest has %d states", reached)
	}
}

// Greater ones, of which what comes is told beforehand: the same one, twice and mixed up.
func TestG2MixedUp(t *testing.T) {
	d := dice(17)
	for range 20 {
		a := some(&d, 100+d.below(400), 2+d.below(6))
		want, err := auto.Not(a)
		if err != api.OK {
			t.Fatalf("Not: error %d", err)
		}
		wantLeast(t, want)
		wantPair(t, "Not", a, a, want, func(x, y bool) bool { return !x })
		got, err := auto.Not(twice(&d, twice(&d, a)))
		wantAuto(t, "Not of the same twice", got, err, want)
		if t.Failed() {
			return
		}
	}
}
