package scan_test

import (
	"math"
	"testing"

	"scanfail/api"
)

// ends are ways that give nothing.
func ends(l ...int) []api.Way {
	var out []api.Way
	for _, to := range l {
		out = append(out, api.Way{To: to})
	}
	return out
}

func TestE4At(t *testing.T) {
	q := ask("ARB", "abc")
	wantWays(t, q, 0, 9, ends(0, 1, 2, 3), false)
	wantWays(t, q, 2, 9, ends(2, 3), false)
	wantWays(t, q, 3, 9, ends(3), false)
	for _, at := range []int{math.MinInt, -1, 4, 5, math.MaxInt} {
		wantNoWays(t, q, at, 9, api.ErrRange)
	}
	q.subject = ""
	wantWays(t, q, 0, 9, ends(0), false)
	wantNoWays(t, q, -1, 9, api.ErrRange)
	wantNoWays(t, q, 1, 9, api.ErrRange)
	q.subject = full
	wantWays(t, q, api.MaxText, 9, ends(api.MaxText), false)
	wantWays(t, q, api.MaxText-1, 9, ends(api.MaxText-1, api.MaxText), false)
	wantNoWays(t, q, api.MaxText+1, 9, api.ErrRange)
}

func TestE4Most(t *testing.T) {
	q := ask("ARB", "abc")
	wantWays(t, q, 0, 1, ends(0), false)
	wantWays(t, q, 0, 3, ends(0, 1, 2), false)
	wantWays(t, q, 0, 4, ends(0, 1, 2, 3), false)
	wantWays(t, q, 0, 5, ends(0, 1, 2, 3), false)
	wantWays(t, q, 0, api.MaxWays, ends(0, 1, 2, 3), false)
	wantWays(t, q, 0, 0, nil, false)
	for _, most := range []int{math.MinInt, -1, api.MaxWays + 1, math.MaxInt} {
		wantNoWays(t, q, 0, most, api.ErrRange)
	}
}

func TestE4MostOfAll(t *testing.T) {
	q := question{nil, bare(api.PatArb), full, 1}
	var want []api.Way
	for to := range api.MaxWays {
		want = append(want, api.Way{To: to})
	}
	wantWays(t, q, 0, api.MaxWays, want, false)
	wantWays(t, q, 0, api.MaxWays-1, want[:api.MaxWays-1], false)
	q.subject = full[:api.MaxWays-1] // just as many ways
	wantWays(t, q, 0, api.MaxWays, want, false)
	q.subject = full[:api.MaxWays-2]
	wantWays(t, q, 0, api.MaxWays, want[:api.MaxWays-1], false)
}

// As soon as there are most nothing more is come to, and nobody asks whether there would be more.
func TestE4StopsAtMost(t *testing.T) {
	q := ask("'a' | *NOBODY", "abc")
	wantWays(t, q, 0, 1, ends(1), false)
	wantNoWays(t, q, 0, 2, api.ErrName)
	q = ask("'a' | 'ab' | ABORT", "abc")
	wantWays(t, q, 0, 1, ends(1), false)
	wantWays(t, q, 0, 2, ends(1, 2), false)
	wantWays(t, q, 0, 3, ends(1, 2), true)
	q = ask("FENCE ARB", "ab")
	wantWays(t, q, 0, 2, ends(0, 1), false)
	wantWays(t, q, 0, 3, ends(0, 1, 2), false)
	wantWays(t, q, 0, 4, ends(0, 1, 2), true)
	q = ask("'a' | 'ab'", "abc")
	q.fuel = 2
	wantWays(t, q, 0, 1, ends(1), false)
	wantNoWays(t, q, 0, 2, api.ErrFuel)
	q.fuel = 3
	wantWays(t, q, 0, 2, ends(1, 2), false)
	wantWays(t, q, 0, 3, ends(1, 2), false)
}

// With most of 0 there are as many from the beginning on.
func TestE4MostOfNone(t *testing.T) {
	for _, p := range []string{"'a'", "FENCE", "ABORT", "*NOBODY"} {
		q := ask(p, "abc")
		wantWays(t, q, 0, 0, nil, false)
		q.fuel = 0
		wantWays(t, q, 0, 0, nil, false)
	}
}

func TestE4Given(t *testing.T) {
	q := ask("(LEN(1) | LEN(2)) . X ARB . Y", "abc")
	wantWays(t, q, 0, 9, []api.Way{
		{To: 1, Given: gifts("X=a Y=")}, {To: 2, Given: gifts("X=a Y=b")}, {To: 3, Given: gifts("X=a Y=bc")},
		{To: 2, Given: gifts("X=ab Y=")}, {To: 3, Given: gifts("X=ab Y=c")},
	}, false)
	wantWays(t, q, 1, 2, []api.Way{{To: 2, Given: gifts("X=b Y=")}, {To: 3, Given: gifts("X=b Y=c")}}, false)
	wantWays(t, q, 3, 9, nil, false)
}

// Only this place is tried, not the next ones.
func TestE4OnePlace(t *testing.T) {
	q := ask("'b'", "abc")
	wantWays(t, q, 0, 9, nil, false)
	wantWays(t, q, 1, 9, ends(2), false)
	wantWays(t, q, 2, 9, nil, false)
}

func TestE4Fuel(t *testing.T) {
	for _, c := range []struct {
		p, subject string
		most, want int
	}{
		{"'a'", "abc", 9, 1},
		{"ARB", "abc", 9, 1},
		{"ARB LEN(1)", "abc", 1, 3},
		{"ARB LEN(1)", "abc", 3, 5},
		{"ARB LEN(1)", "abc", 4, 6}, // at the end LEN is come to in vain
		{"ARBNO('a')", "aab", 1, 1},
		{"ARBNO('a')", "aab", 2, 2},
		{"ARBNO('a')", "aab", 3, 3},
		{"ARBNO('a')", "aab", 4, 4},
		{"*A", "aab", 9, 15},
	} {
		q := ask(c.p, c.subject, "A := 'a' *A | ''")
		ways, cut, _, ticks := modelWays(q, 0, c.most)
		if ticks != c.want {
			t.Errorf("the model of %v: %d comings; want %d", q, ticks, c.want)
		}
		q.fuel = c.want
		wantWays(t, q, 0, c.most, ways, cut)
		q.fuel = c.want - 1
		wantNoWays(t, q, 0, c.most, api.ErrFuel)
	}
}
