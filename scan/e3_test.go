package scan_test

import (
	"runtime"
	"strings"
	"testing"

	"scanfail/api"
	"scanfail/scan"
)

func TestE3Match(t *testing.T) {
	for _, c := range []struct {
		p, subject     string
		loose, anchors api.Match // what comes of it at any place, and at 0 alone
	}{
		{"'a'", "abc", api.Match{Found: true, To: 1, Ticks: 1}, api.Match{Found: true, To: 1, Ticks: 1}},
		{"'b'", "abc", api.Match{Found: true, From: 1, To: 2, Ticks: 2}, api.Match{Ticks: 1}},
		{"'x'", "abc", api.Match{Ticks: 4}, api.Match{Ticks: 1}}, // the subject's end is a place, too
		{"''", "abc", api.Match{Found: true, Ticks: 1}, api.Match{Found: true, Ticks: 1}},
		{"RPOS(0)", "abc", api.Match{Found: true, From: 3, To: 3, Ticks: 4}, api.Match{Ticks: 1}},
		{"POS(3)", "abc", api.Match{Found: true, From: 3, To: 3, Ticks: 4}, api.Match{Ticks: 1}},
		{"''", "", api.Match{Found: true, Ticks: 1}, api.Match{Found: true, Ticks: 1}},
		{"'a'", "", api.Match{Ticks: 1}, api.Match{Ticks: 1}},
		{"REM", "", api.Match{Found: true, Ticks: 1}, api.Match{Found: true, Ticks: 1}},
		{"BREAK('c') . X", "abc", api.Match{Found: true, To: 2, Given: gifts("X=ab"), Ticks: 2}, api.Match{Found: true, To: 2, Given: gifts("X=ab"), Ticks: 2}},
		{"'b' . X 'c' . Y", "abc", api.Match{Found: true, From: 1, To: 3, Given: gifts("X=b Y=c"), Ticks: 3 + 5}, api.Match{Ticks: 3}},
		{"'a' . X 'c' . Y", "abac", api.Match{Found: true, From: 2, To: 4, Given: gifts("X=a Y=c"), Ticks: 5 + 3 + 5}, api.Match{Ticks: 5}}, // what the first place gave is left
		{"'a' $ X 'c' $ Y", "abac", api.Match{Found: true, From: 2, To: 4, Said: gifts("X=a X=a Y=c"), Ticks: 5 + 3 + 5}, api.Match{Said: gifts("X=a"), Ticks: 5}},
		{"@X 'c'", "abc", api.Match{Found: true, From: 2, To: 3, Said: gifts("X=0 X=1 X=2"), Ticks: 9}, api.Match{Said: gifts("X=0"), Ticks: 3}},
		{"@X FAIL", "ab", api.Match{Said: gifts("X=0 X=1 X=2"), Ticks: 9}, api.Match{Said: gifts("X=0"), Ticks: 3}},
		{"'a' . X FAIL", "ab", api.Match{Ticks: 4 + 3 + 3}, api.Match{Ticks: 4}}, // where nothing is found nothing is given
		{"'ab' | 'a'", "ab", api.Match{Found: true, To: 2, Ticks: 2}, api.Match{Found: true, To: 2, Ticks: 2}},
		{"'a' | 'ab'", "ab", api.Match{Found: true, To: 1, Ticks: 2}, api.Match{Found: true, To: 1, Ticks: 2}}, // the first way, not the longest one
		{"SPAN('0123456789') . N '.'", "v12.5", api.Match{Found: true, From: 1, To: 4, Given: gifts("N=12"), Ticks: 3 + 4}, api.Match{Ticks: 3}},
	} {
		q := ask(c.p, c.subject)
		wantMatch(t, q, false, c.loose)
		wantMatch(t, q, true, c.anchors)
		wantTicks(t, q, false, c.loose.Ticks)
		wantTicks(t, q, true, c.anchors.Ticks)
	}
}

// Where nobody may look further the next places are not tried.
func TestE3FenceAndAbort(t *testing.T) {
	for _, c := range []struct {
		p    string
		want api.Match
	}{
		{"FENCE 'b'", api.Match{Ticks: 3}},
		{"ABORT", api.Match{Ticks: 1}},
		{"'b' FENCE 'c'", api.Match{Found: true, From: 1, To: 3, Ticks: 2 + 4}}, // at 0 FENCE is not come to
		{"'a' FENCE 'c' | 'b'", api.Match{Ticks: 5}},
		{"'b' ABORT | 'c'", api.Match{Ticks: 4 + 4}},
		{"'b' FENCE 'x' | 'c'", api.Match{Ticks: 4 + 5}},
		{"'b' | ABORT", api.Match{Ticks: 3}},
		{"'c' | POS(1) ABORT", api.Match{Ticks: 4 + 5}},
		{"@X $ Y 'b' ABORT", api.Match{Said: gifts("X=0 Y= X=1 Y="), Ticks: 4 + 5}},
		{"FENCE", api.Match{Found: true, Ticks: 1}},
		{"FENCE 'a' . X", api.Match{Found: true, To: 1, Given: gifts("X=a"), Ticks: 4}},
		{"ARBNO('a' FENCE) 'c'", api.Match{Ticks: 9}}, // behind FENCE 'c' is tried, then the kid again
	} {
		q := ask(c.p, "abc")
		wantMatch(t, q, false, c.want)
		wantTicks(t, q, false, c.want.Ticks)
	}
}

func TestE3LastPlace(t *testing.T) {
	q := question{nil, number(api.PatRPos, 0), full, api.MaxFuel}
	wantMatch(t, q, false, api.Match{Found: true, From: api.MaxText, To: api.MaxText, Ticks: api.MaxText + 1})
	q.p = lit("b")
	wantMatch(t, q, false, api.Match{Ticks: api.MaxText + 1})
	q.fuel = api.MaxText
	wantNoMatch(t, q, false, api.ErrFuel)
	q.fuel = api.MaxText + 1
	wantMatch(t, q, false, api.Match{Ticks: api.MaxText + 1})
}

func TestE3AllFuel(t *testing.T) {
	q := question{nil, alt(lit("b"), lit("b"), lit("b")), full[:24999], api.MaxFuel} // four comings at each of 25000 places
	wantMatch(t, q, false, api.Match{Ticks: api.MaxFuel})
	q.subject += "a"
	wantNoMatch(t, q, false, api.ErrFuel)
}

// What was told beside an error is not told.
func TestE3ToldBesideErrors(t *testing.T) {
	q := ask("ARB $ X @Y *Q", "abc")
	wantNoMatch(t, q, false, api.ErrName)
	q = ask("ARB . X $ Y FAIL", "abc")
	q.fuel = 5
	wantNoMatch(t, q, true, api.ErrFuel)
}

// All that is told is told, however much it is.
func TestE3ToldMuch(t *testing.T) {
	q := question{nil, pat("ARB $ X FAIL"), full, api.MaxFuel}
	m, err := scan.Match(nil, q.p, q.subject, true, q.fuel)
	if err != api.OK || len(m.Said) != api.MaxText+1 || m.Ticks != 4+api.MaxText {
		t.Fatalf("Match of %v: %d told, %d comings, error %d", q, len(m.Said), m.Ticks, err)
	}
	for i, g := range m.Said {
		if g.Name != "X" || g.Text != full[:i] {
			t.Fatalf("Match of %v: %d told, %q has %d bytes", q, i, g.Name, len(g.Text))
		}
	}
}

// More is told than comings are counted, where rules return from far below.
func TestE3ToldByRules(t *testing.T) {
	n := 100
	q := ask("*P FAIL", strings.Repeat("ab", n/2), "P := LEN(1) *P $ X | ARB @Y")
	q.fuel = api.MaxFuel
	want, err := modelMatch(q, true)
	if err != api.OK || len(want.Said) < 1<<17 {
		t.Fatalf("the model of %v: %d told, error %d", q, len(want.Said), err)
	}
	wantMatch(t, q, true, want)
}

// A match that runs out of fuel tells nothing: what it would have told takes no memory.
func TestE3ToldInVain(t *testing.T) {
	q := ask("*P FAIL", full[:1000], "P := LEN(1) *P $ X | ARB")
	q.fuel = api.MaxFuel
	var before, after runtime.MemStats
	runtime.ReadMemStats(&before)
	wantNoMatch(t, q, true, api.ErrFuel)
	runtime.ReadMemStats(&after)
	if took := (after.TotalAlloc - before.TotalAlloc) >> 20; took > 64 {
		t.Errorf("Match of %v took %d MiB", q, took)
	}
}
