package check_test

import (
	"fmt"
	"strings"
	"testing"

	"scanfail/api"
	"scanfail/check"
)

func TestK3Fault(t *testing.T) {
	for _, c := range []struct {
		lines []string
		err   api.Errno
		at    int
	}{
		{[]string{" X = 1", " Y = 2 :(L)"}, api.ErrNone, 1},
		{[]string{" X = 1", "RETURN Y = 2"}, api.ErrName, 1},
		{[]string{" :(END)", "L", "L"}, api.ErrName, 2},
		{[]string{" :(END)", " F()"}, api.ErrName, 1},
		{[]string{" :(END)", " X = 1", " SIZE()"}, api.ErrMany, 2},
		{[]string{" DEFINE F() L"}, api.ErrNone, 0},
	} {
		got, fault := check.Reached(program(t, c.lines...))
		if fault != (api.Fault{Err: c.err, At: c.at}) || len(got) > 0 {
			t.Errorf("Reached of %q: %v, fault %v; want nothing, fault {%d %d}", c.lines, got, fault, c.err, c.at)
		}
	}
	for _, l := range [][]api.Statement{some(api.MaxLines + 1), {empty(), {}}, {empty(), eval(endless(api.ExCall, 4))}} {
		want := check.Check(l)
		if got, fault := check.Reached(l); fault != want || fault.Err == api.OK || len(got) > 0 {
			t.Errorf("Reached of %s: %v, fault %v; want nothing, fault %v", tell(l), got, fault, want)
		}
	}
}

func TestK3First(t *testing.T) {
	wantReached(t, nil, "")
	wantReached(t, []api.Statement{}, "")
	for _, s := range eachKind() {
		wantReached(t, []api.Statement{labelled("L", s)}, "1")
		wantReached(t, []api.Statement{labelled("L", always(s, "END"))}, "1")
		wantReached(t, []api.Statement{labelled("L", always(s, "END")), empty()}, "10")
		wantReached(t, []api.Statement{labelled("L", s), empty(), empty()}, "111")
	}
	wantReached(t, some(api.MaxLines), strings.Repeat("1", api.MaxLines))
}

// ahead is a program in which a statement of some kind goes on; behind it stand the next one, which ends, L and M, which end, too.
func ahead(s api.Statement) []api.Statement {
	return []api.Statement{s, always(empty(), "END"), labelled("L", always(empty(), "END")), labelled("M", always(empty(), "END"))}
}

func canFail(s api.Statement) bool {
	switch s.Kind {
	case api.StEval, api.StAssign, api.StMatch, api.StReplace:
		return true
	}
	return false
}

func TestK3WaysOn(t *testing.T) {
	for _, s := range eachKind() {
		for _, c := range []struct {
			always, yes, noes string
			want, never       string // what is come to; and if it can't fail
		}{
			{"", "", "", "1100", "1100"},
			{"L", "", "", "1010", "1010"},
			{"M", "", "", "1001", "1001"},
			{"", "L", "", "1110", "1010"},
			{"", "M", "", "1101", "1001"},
			{"", "", "L", "1110", "1100"},
			{"", "", "M", "1101", "1100"},
			{"", "L", "M", "1011", "1010"},
			{"", "M", "L", "1011", "1001"},
			{"", "L", "L", "1010", "1010"},
			{"", "M", "M", "1001", "1001"},
			{"END", "", "", "1000", "1000"},
			{"RETURN", "", "", "1000", "1000"},
			{"FRETURN", "", "", "1000", "1000"},
			{"", "END", "", "1100", "1000"},
			{"", "RETURN", "", "1100", "1000"},
			{"", "FRETURN", "", "1100", "1000"},
			{"", "", "END", "1100", "1100"},
			{"", "", "RETURN", "1100", "1100"},
			{"", "", "FRETURN", "1100", "1100"},
			{"", "END", "L", "1010", "1000"},
			{"", "L", "END", "1010", "1010"},
			{"", "RETURN", "FRETURN", "1000", "1000"},
			{"", "FRETURN", "END", "1000", "1000"},
			{"", "FRETURN", "M", "1001", "1000"},
		} {
			s.Always, s.Yes, s.Noes = c.always, c.yes, c.noes
			want := c.never
			if canFail(s) {
				want = c.want
			}
			wantReached(t, ahead(s), want)
			// The same, behind two others, and where it leads to itself.
			wantReached(t, join([]api.Statement{empty(), eval(number(1))}, ahead(s)), "11"+want)
			l := ahead(labelled("A", s))
			l[2].Always, l[3].Always = "A", "A"
			wantReached(t, l, want)
			// What is not come to leads nowhere.
			wantReached(t, join([]api.Statement{always(empty(), "END")}, ahead(s)), "10000")
		}
	}
}

// Behind the last one there is nothing.
func TestK3BehindTheLast(t *testing.T) {
	for _, s := range eachKind() {
		there := always(labelled("L", empty()), "M")
		for _, way := range []api.Statement{s, onYes(s, "END"), onNoes(s, "END"), onYes(s, "L"), onNoes(s, "L"), always(s, "L"), always(s, "RETURN")} {
			wantReached(t, []api.Statement{there, empty(), labelled("M", way)}, "101")
		}
	}
	wantReached(t, program(t, " X = 1 :S(L)", " :(END)", "L Y = 2 :F(END)"), "111")
}

func TestK3Backwards(t *testing.T) {
	wantReached(t, program(t, " :(C)", "A :(END)", "B :(A)", "C :(B)", "D :(C)"), "11110")
	wantReached(t, program(t, " :(C)", "A :(END)", "B X = 1 :S(A)F(A)", "C X = 1 :F(B)", "D"), "11111")
	wantReached(t, program(t, " :(C)", "A :(END)", "B :(A)", "C X = 1 :S(END)F(B)", "D :(C)"), "11110")
}

func TestK3Loops(t *testing.T) {
	wantReached(t, program(t, "L :(L)"), "1")
	wantReached(t, program(t, "L :(L)", "M :(M)"), "10")
	wantReached(t, program(t, "A :(B)", "C :(A)", "B :(A)"), "101")
	wantReached(t, program(t, "A X = 1 :S(A)F(A)", "B :(A)"), "10")
	wantReached(t, program(t, "A X = 1 :S(A)", "B :(A)"), "11")
	wantReached(t, program(t, "A X = 1 :F(A)", "B :(A)"), "11")
	wantReached(t, program(t, "A :S(A)", "B :(A)"), "10")
	wantReached(t, program(t, "A :F(A)", "B :(A)"), "11")
	wantReached(t, program(t, "A :(C)", "B :(D)", "C :(A)", "D :(B)"), "1010")
	wantReached(t, program(t, "LOOP LINE = INPUT :F(END)", " LINE ? [SPAN(' ')] = '' :S(LOOP)F(LOOP)", " OUTPUT = LINE"), "110")
	// A ring through all statements, and one of every other one.
	ring, half := some(api.MaxLines), some(api.MaxLines)
	for i := range ring {
		ring[i] = labelled(fmt.Sprintf("L%d", i), always(empty(), fmt.Sprintf("L%d", (i+7)%api.MaxLines)))
		half[i] = labelled(fmt.Sprintf("L%d", i), always(empty(), fmt.Sprintf("L%d", (i+6)%api.MaxLines)))
	}
	wantReached(t, ring, strings.Repeat("1", api.MaxLines))
	wantReached(t, half, strings.Repeat("10", api.MaxLines/2))
}

// The longest way: each statement leads to the one ahead of it.
func TestK3LongestWay(t *testing.T) {
	l := some(api.MaxLines)
	for i := range l {
		l[i] = labelled(fmt.Sprintf("L%d", i), always(empty(), fmt.Sprintf("L%d", max(i-1, 1))))
	}
	l[0].Always = fmt.Sprintf("L%d", api.MaxLines-1)
	wantReached(t, l, strings.Repeat("1", api.MaxLines))
	l[500].Always = "END"
	wantReached(t, l, "1"+strings.Repeat("0", 499)+strings.Repeat("1", 500))
	// The same by calls alone.
	var calls []api.Statement
	for i := range api.MaxLines / 2 {
		calls = append(calls, labelled(fmt.Sprintf("L%d", i), always(eval(call(fmt.Sprintf("F%d", i+1))), "RETURN")), define(fmt.Sprintf("F%d", i), nil, nil, fmt.Sprintf("L%d", i)))
	}
	calls[len(calls)-2].Value = call("F1")
	wantReached(t, calls, strings.Repeat("10", api.MaxLines/2))
}

// Wherever a call stands in a statement, the function's Entry is come to, and all that it leads to.
func TestK3Calls(t *testing.T) {
	body := program(t, " DEFINE N(A) L", " :(END)", "L N = A :F(M)", " :(RETURN)", "M :(FRETURN)", " X = 1")
	for kids := range 2 {
		for _, s := range holders(calling("N", kids)) {
			wantReached(t, join([]api.Statement{s}, body), "1111110")
			wantReached(t, join([]api.Statement{always(s, "END")}, body), "1001110")
			wantReached(t, join([]api.Statement{onYes(onNoes(s, "RETURN"), "FRETURN")}, body), "1001110")
			wantReached(t, join(body[:1], []api.Statement{always(s, "END")}, body[1:]), "1101110")
			// One that is not come to calls nobody.
			wantReached(t, join([]api.Statement{always(empty(), "END"), s}, body), "10000000")
			wantReached(t, join([]api.Statement{empty()}, body, []api.Statement{s}), "11100000")
		}
		for _, s := range holders(item("N", number(1))) {
			wantReached(t, join([]api.Statement{s}, body), "1110000")
		}
	}
	for _, s := range holders(name("N")) {
		wantReached(t, join([]api.Statement{s}, body), "1110000")
	}
	for _, s := range holders(call("SIZE", number(1))) {
		wantReached(t, join([]api.Statement{s}, body), "1110000")
	}
}

func TestK3CallsByCalls(t *testing.T) {
	for _, c := range []struct {
		lines []string
		want  string
	}{
		// F's own statements call G, and G's H.
		{[]string{" F() :(END)", " DEFINE F() A", " DEFINE G() B", " DEFINE H() C", "A G() :(RETURN)", "B H() :(RETURN)", "C :(RETURN)", "D"}, "10001110"},
		{[]string{" G() :(END)", " DEFINE F() A", " DEFINE G() B", " DEFINE H() C", "A G() :(RETURN)", "B H() :(RETURN)", "C :(RETURN)", "D"}, "10000110"},
		{[]string{" H() :(END)", " DEFINE F() A", " DEFINE G() B", " DEFINE H() C", "A G() :(RETURN)", "B H() :(RETURN)", "C :(RETURN)", "D"}, "10000010"},
		{[]string{" X = 1 :(END)", " DEFINE F() A", " DEFINE G() B", " DEFINE H() C", "A G() :(RETURN)", "B H() :(RETURN)", "C :(RETURN)", "D"}, "10000000"},
		// A call among a call's arguments.
		{[]string{" F(G(H(1))) :(END)", " DEFINE F(X) A", " DEFINE G(X) B", " DEFINE H(X) C", "A :(RETURN)", "B :(RETURN)", "C :(RETURN)", "D"}, "10001110"},
		{[]string{" X<F(1)> = SIZE(H(1)) :(END)", " DEFINE F(X) A", " DEFINE G(X) B", " DEFINE H(X) C", "A :(RETURN)", "B :(RETURN)", "C :(RETURN)", "D"}, "10001010"},
		{[]string{" $F(1) ? [ARB] = EQ(1, -H(1)) :(END)", " DEFINE F(X) A", " DEFINE G(X) B", " DEFINE H(X) C", "A :(RETURN)", "B :(RETURN)", "C :(RETURN)", "D"}, "10001010"},
		{[]string{" F(1) & G(1) ? [ARB] :(END)", " DEFINE F(X) A", " DEFINE G(X) B", " DEFINE H(X) C", "A :(RETURN)", "B :(RETURN)", "C :(RETURN)", "D"}, "10001100"},
		// Functions that call themselves, and each other.
		{[]string{" F() :(END)", " DEFINE F() A", "A F() :(RETURN)", "B"}, "1010"},
		{[]string{" F() :(END)", " DEFINE F() A", " DEFINE G() B", "A G() :(RETURN)", "B F() :(RETURN)", "C"}, "100110"},
		{[]string{" X = 1 :(END)", " DEFINE F() A", " DEFINE G() B", "A G() :(RETURN)", "B F() :(RETURN)", "C"}, "100000"},
		// Two functions that begin at one place, and one that begins at its StDefine.
		{[]string{" F() :(END)", " DEFINE F() A", " DEFINE G() A", "A", "B"}, "10011"},
		{[]string{" F() :(END)", "A DEFINE F() A", " :(RETURN)", "B"}, "1110"},
		// One that begins at the first statement, and at the one that calls it.
		{[]string{"A F() :(END)", " DEFINE F() A", "B"}, "100"},
		{[]string{" :(B)", "A :(RETURN)", "B F() :(END)", " DEFINE F() A"}, "1110"},
		// A StDefine calls nobody.
		{[]string{" DEFINE F() A", " :(END)", "A", "B"}, "1100"},
		{[]string{" DEFINE F() A :(END)", "A", "B"}, "100"},
		// A pattern that has a function's name calls no function.
		{[]string{" X ? [*F] :(END)", " DEFINE F() A", "A", "B"}, "1000"},
		{[]string{" F := [*F] :(END)", " DEFINE F() A", "A", "B"}, "1000"},
		// Calls are come to whichever way it goes on.
		{[]string{"L F() :S(L)F(L)", " DEFINE F() A", "A :(RETURN)", "B"}, "1010"},
		// What a function goes on to outside.
		{[]string{" F() :(END)", " DEFINE F() A", "A :(C)", "B", "C X = 1 :S(END)F(B)"}, "10111"},
	} {
		wantReached(t, program(t, c.lines...), c.want)
	}
}

func TestK3NeverFails(t *testing.T) {
	for _, line := range []string{"", " P := [FAIL]", " DEFINE F() L"} {
		for ways, want := range map[string]string{":F(L)": "1101", ":S(END)F(L)": "1000", ":S(M)F(L)": "1001", ":F(END)": "1101", ":S(L)F(L)": "1011", ":S(L)": "1011", ":(L)": "1011"} {
			wantReached(t, program(t, line+" "+ways, " :(M)", "L X = 1", "M Y = 1"), want)
		}
	}
	for _, line := range []string{" 1", " X = 1", " X ? [ARB]", " X ? [''] = 1"} {
		for ways, want := range map[string]string{":F(L)": "1111", ":S(END)F(L)": "1011", ":S(M)F(L)": "1011", ":F(END)": "1101", ":S(L)F(L)": "1011", ":S(L)": "1111", ":(L)": "1011"} {
			wantReached(t, program(t, line+" "+ways, " :(M)", "L X = 1", "M Y = 1"), want)
		}
	}
}

func TestK3Programs(t *testing.T) {
	fact := []string{" DEFINE FACT(N)M FACT", " OUTPUT = FACT(10) :(END)", "FACT FACT = 1", " LT(N, 2) :S(RETURN)", " FACT = N * FACT(N - 1) :(RETURN)", "REST OUTPUT = 1"}
	wantReached(t, program(t, fact...), "111110")
	fact[1] = " OUTPUT = 1 :(END)"
	wantReached(t, program(t, fact...), "110000")
	fact[1] = " OUTPUT = 1 :S(END)F(REST)"
	wantReached(t, program(t, fact...), "110001")
}
