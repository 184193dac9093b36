package machine_test

import (
	"math"
	"slices"
	"strings"
	"testing"

	"scanfail/api"
	"scanfail/machine"
)

// wantRange: most is out of its range.
func wantRange(t *testing.T, l []api.Statement, input []string, limit, most int) {
	t.Helper()
	if seen, fault := machine.Trace(l, input, limit, most); fault != (api.Fault{Err: api.ErrRange}) || seen != nil {
		t.Errorf("Trace, limit %d, most %d: %s, fault %v", limit, most, trail(seen), fault)
	}
}

func TestN2WrongMost(t *testing.T) {
	for _, most := range []int{math.MinInt, -api.MaxSeen, -2, -1, api.MaxSeen + 1, api.MaxSeen + 2, api.MaxSteps, math.MaxInt} {
		wantRange(t, nil, nil, 0, most)
		wantRange(t, program(t, "L :(L)"), []string{"a"}, api.MaxSteps, most)
		wantRange(t, program(t, " X = 1"), nil, 5, most)
	}
}

// What Run says is wrong comes ahead of what is wrong with most.
func TestN2WrongOrder(t *testing.T) {
	good, bad := program(t, "", " X = 1"), program(t, "", " :(L)")
	over := []string{"", "", strings.Repeat("a", api.MaxText+1)}
	for _, most := range []int{-1, 0, api.MaxSeen + 1} {
		for _, c := range []struct {
			l     []api.Statement
			input []string
			limit int
			want  api.Fault
		}{
			{bad, nil, 5, api.Fault{Err: api.ErrNone, At: 1}},
			{good, make([]string, api.MaxInput+1), 5, api.Fault{Err: api.ErrMany}},
			{good, over, 5, api.Fault{Err: api.ErrMuch, At: 2}},
			{good, nil, -1, api.Fault{Err: api.ErrRange}},
			{good, nil, api.MaxSteps + 1, api.Fault{Err: api.ErrRange}},
			{bad, over, -1, api.Fault{Err: api.ErrNone, At: 1}},
			{good, over, -1, api.Fault{Err: api.ErrMuch, At: 2}},
		} {
			if seen, fault := machine.Trace(c.l, c.input, c.limit, most); fault != c.want || seen != nil {
				t.Errorf("Trace, limit %d, most %d: %s, fault %v; want %v", c.limit, most, trail(seen), fault, c.want)
			}
		}
	}
}

func TestN2Most(t *testing.T) {
	q := ask(" A = 1", " B = 1 / 0", " C = 3", " D = 1 / 0", " E = 5")
	all := []string{"0+", "1-", "2+", "3-", "4+"}
	for most := range 8 {
		wantTrail(t, q, most, strings.Join(all[:min(most, 5)], " "))
	}
	wantTrail(t, q, api.MaxSeen, strings.Join(all, " "))
	for _, most := range []int{0, 1, api.MaxSeen} {
		wantTrail(t, ask(), most, "")
		wantTrail(t, q.within(0), most, "")
	}
	l := program(t, "L :(M)", "M :(L)")
	for _, most := range []int{api.MaxSeen - 1, api.MaxSeen} {
		for _, limit := range []int{api.MaxSeen - 2, api.MaxSeen - 1, api.MaxSeen, api.MaxSeen + 1, api.MaxSteps} {
			seen, fault := machine.Trace(l, nil, limit, most)
			if fault != (api.Fault{}) || len(seen) != min(limit, most) {
				t.Fatalf("limit %d, most %d: %d seen, fault %v", limit, most, len(seen), fault)
			}
			for i, s := range seen {
				if s != (api.Seen{At: i % 2, OK: true}) {
					t.Fatalf("limit %d, most %d: %v at %d", limit, most, s, i)
				}
			}
		}
	}
}

// One that is kept may succeed long behind the last one that is.
func TestN2MostWithinCalls(t *testing.T) {
	q := ask(" DEFINE F(A) F", " X = F(2) & F(1)", " Y = F(0) :F(END)", "F GT(A, 0) :F(FRETURN)", " F(A - 1)", " N = N + 1 :(RETURN)")
	all := strings.Fields("0+ 1+ 3.1+ 4.1+ 3.2+ 4.2- 3.3- 5.2+ 5.1+ 3.1+ 4.1- 3.2- 5.1+ 2- 3.1-")
	for most := range len(all) + 2 {
		wantTrail(t, q, most, strings.Join(all[:min(most, len(all))], " "))
	}
}

// In the order in which they are come to, each time anew.
func TestN2Order(t *testing.T) {
	wantTrail(t, ask("A X = 1 :(C)", "B Y = 2 :(END)", "C 1 / 0 :F(B)"), 9, "0+ 2- 1+")
	wantTrail(t, ask("L N = N + 1", " LT(N, 3) :S(L)", " X = INPUT", " Y = INPUT").in("a"), 20, "0+ 1+ 0+ 1+ 0+ 1- 2+ 3-")
	wantTrail(t, ask("L X = INPUT :S(L)").in("a", "b"), 20, "0+ 0+ 0-")
	wantTrail(t, ask("L :(L)").within(4), 20, "0+ 0+ 0+ 0+")
	// Of two calls in one statement those of the first one come first.
	wantTrail(t, ask(" DEFINE F() F", " DEFINE G() G", " X = F() & G() :(END)", "F F = 1 :(RETURN)", "G G = 2 :(RETURN)"), 20, "0+ 1+ 2+ 3.1+ 4.1+")
	wantTrail(t, ask(" DEFINE F(A) F", " DEFINE G(A) G", " X = F(G(1)) :(END)", "F F = A :(RETURN)", "G G = A :(RETURN)"), 20, "0+ 1+ 2+ 4.1+ 3.1+")
}

// How many calls are open when a statement is come to.
func TestN2Within(t *testing.T) {
	wantTrail(t, ask(" DEFINE F(N) F", " F(3)", " X = 1 :(END)", "F EQ(N, 0) :S(RETURN)", " F(N - 1)", " N = 7 :(RETURN)"), 20, "0+ 1+ 3.1- 4.1+ 3.2- 4.2+ 3.3- 4.3+ 3.4+ 5.3+ 5.2+ 5.1+ 2+")
	wantTrail(t, ask(" DEFINE F(N) F", " F(2)", " X = 1 :(END)", "F EQ(N, 0) :S(FRETURN)", " F(N - 1)", " N = 7 :(FRETURN)"), 20, "0+ 1- 3.1- 4.1- 3.2- 4.2- 3.3+ 5.2+ 5.1+ 2+")
	wantTrail(t, helped(" S<T(1)> ? [''] = T(T(2))"), 20, "0+ 4.1+ 5.1+ 4.1+ 5.1+ 4.1+ 5.1+ 1+")
	// As many as can be open: the last one's call is none.
	l := program(t, " DEFINE F() F", " F() :(END)", "F F() :(RETURN)")
	want := []api.Seen{{At: 0, OK: true}, {At: 1, OK: true}}
	for i := range api.MaxCalls {
		want = append(want, api.Seen{At: 2, Within: i + 1, OK: i+1 < api.MaxCalls})
	}
	if seen, fault := machine.Trace(l, nil, 1000, 1000); fault != (api.Fault{}) || !slices.Equal(seen, want) {
		t.Errorf("as many calls as can be: %s, fault %v; want %s", trail(seen), fault, trail(want))
	}
	asModel(t, l, nil, 1000)
}

// Statements of each kind that succeed, and that fail, whatever their ways on.
func TestN2Succeeded(t *testing.T) {
	behind := []string{" :(END)", "A :(END)", " DEFINE G(X,Y) G", "G X = 'a' & 1 / 0 :(FRETURN)", " DEFINE F(A) F", "F F = 1 :(RETURN)"}
	for _, on := range []string{"", " :(A)", " :S(A)", " :F(A)", " :S(A)F(A)", " :S(A)F(END)", " :S(END)F(A)", " :(END)", " :S(END)", " :F(END)", " :S(END)F(END)", " :(RETURN)", " :(FRETURN)", " :S(RETURN)F(FRETURN)", " :S(FRETURN)F(RETURN)", " :S(RETURN)", " :F(RETURN)"} {
		first := func(body, want string) {
			t.Helper()
			lines := slices.Concat([]string{" W<'l'> = DUPL('w', 65536)", " " + body + on}, behind)
			seen, fault := machine.Trace(program(t, lines...), nil, 10000, 2)
			if got := trail(seen); fault != (api.Fault{}) || got != "0+ "+want {
				t.Errorf("Trace of %q: %s, fault %v; want 0+ %s", lines, got, fault, want)
			}
			asModel(t, program(t, lines...), nil, 10000)
		}
		for _, body := range []string{"", "P := [ARB]", "DEFINE H() A", "1", "X", "EQ(1, 1)", "F()", "X = 1", "OUTPUT = F(1)", "T<1> = 2", "$'X' = ''", "'a' ? ['a']", "X ? ['']", "X ? [''] = 1", "T<F()> ? [REM] = F()"} {
			first(body, "1+")
		}
		for _, body := range failing {
			first(body, "1-")
		}
	}
}

// One within which the run ends has not succeeded, nor have those around it; one behind which it ends has, if it did.
func TestN2Ends(t *testing.T) {
	// The limit: at a statement that is come to, which is none of them; in a match.
	wantTrail(t, ask(" A = 1", " B = 2", " C = 3").within(2), 9, "0+ 1+")
	wantTrail(t, ask(" A = 1", " 'abc' ? ['c']", " C = 3").within(4), 9, "0+ 1-")
	wantTrail(t, ask(" A = 1", " 'abc' ? ['c']", " C = 3").within(5), 9, "0+ 1+")
	wantTrail(t, ask(" A = 'abc'", " A ? ['c'] = 1", " C = 3").within(4), 9, "0+ 1-")
	wantTrail(t, ask(" A = 'abc'", " A ? ['c'] = 1", " C = 3").within(5), 9, "0+ 1+")
	q := ask(" DEFINE F() F", " A = F()", " B = 1 :(END)", "F C = 1", " C = 2 :(RETURN)")
	for limit, want := range []string{"", "0+", "0+ 1-", "0+ 1- 3.1+", "0+ 1+ 3.1+ 4.1+", "0+ 1+ 3.1+ 4.1+ 2+", "0+ 1+ 3.1+ 4.1+ 2+"} {
		wantTrail(t, q.within(limit), 9, want)
	}
	wantTrail(t, ask(" DEFINE F() F", " A = F() :(END)", "F 'abc' ? ['c'] :(RETURN)").within(5), 9, "0+ 1- 2.1-")
	wantTrail(t, ask(" DEFINE F() F", " F() ? ['c'] :(END)", "F F = 'abc' :(RETURN)").within(5), 9, "0+ 1- 2.1+")
	// END, and behind the last statement, out of a call.
	wantTrail(t, ask(" DEFINE F() F", " A = F()", " B = 1", "F C = 1 :(END)"), 9, "0+ 1- 3.1+")
	wantTrail(t, ask(" DEFINE F() F", " A = F()", " B = 1", "F C = 1 / 0 :F(END)"), 9, "0+ 1- 3.1-")
	wantTrail(t, ask(" DEFINE F() F", " A = F()", " B = 1", "F C = 1"), 9, "0+ 1- 3.1+")
	wantTrail(t, ask(" DEFINE F() F", " A = F()", " B = 1", "F C = 1 / 0"), 9, "0+ 1- 3.1-")
	wantTrail(t, ask(" DEFINE F() F", " DEFINE G() G", " A = 'x' & F()", "F T<1> = G() & 'y' :(RETURN)", "G", "H :(END)"), 9, "0+ 1+ 2- 3.1- 4.2+ 5.2+")
	// END, RETURN and FRETURN outside of all calls, and behind the last statement.
	for _, on := range []string{" :(END)", " :(RETURN)", " :(FRETURN)", ""} {
		wantTrail(t, ask(" A = 1", " B = 2"+on, "*"), 9, "0+ 1+")
		wantTrail(t, ask(" A = 1", " B = 2 / 0"+on, "*"), 9, "0+ 1-")
	}
}

// Where too much would be kept, or told.
func TestN2EndsAsMuch(t *testing.T) {
	ahead := strings.Repeat(" +", 16)
	for _, c := range []struct {
		lines []string
		want  string
	}{
		{[]string{" B = 'b'", " C = 1"}, "-"},
		{[]string{" B = ''", " T<1> = 'b' :S(END)F(END)"}, "+ -"},
		{[]string{" 'a' ? ['a' $ B]", " C = 1"}, "-"},
		{[]string{" 'a' ? ['a' . B]", " C = 1"}, "-"},
		{[]string{" A0 ? [POS(0) LEN(65536)] = 'b'", " B = DUPL('c', 65535)", " C = 'd'"}, "+ + -"},
		{[]string{" DEFINE F(B) F", " X = F('b') :(END)", "F :(RETURN)"}, "+ -"},
		{[]string{" DEFINE F(B) F", " X = F() :(END)", "F B = 'b' :(RETURN)"}, "+ - -"},
		// What was put aside does not come back: the function's last statement had succeeded, or failed.
		{[]string{" DEFINE F(A0) F", " X = F() :(END)", "F B = 'b' :(RETURN)"}, "+ - +"},
		{[]string{" DEFINE F(A0) F", " X = F() :(END)", "F B = 'b'", " 1 / 0 :(FRETURN)"}, "+ - + -"},
	} {
		l := program(t, slices.Concat(keeping(), c.lines)...)
		seen, fault := machine.Trace(l, nil, api.MaxSteps, 99)
		var got []string
		for _, s := range seen {
			got = append(got, map[bool]string{true: "+", false: "-"}[s.OK])
		}
		if fault != (api.Fault{}) || " "+strings.Join(got, " ") != ahead+" "+c.want {
			t.Errorf("Trace of %q: %s, fault %v; want %s", c.lines, strings.Join(got, " "), fault, c.want)
		}
		asModel(t, l, nil, api.MaxSteps)
	}
	wantTrail(t, ask(" X = DUPL('a', 65535)", "L N = N + 1", " OUTPUT = X", " LT(N, 16) :S(L)", " 1 / 0", " OUTPUT = ''", " Y = 1"), 99, "0+"+strings.Repeat(" 1+ 2+ 3+", 15)+" 1+ 2+ 3- 4- 5-")
}
