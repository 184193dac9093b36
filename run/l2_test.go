package run_test

import (
	"fmt"
	"slices"
	"strings"
	"testing"

	"scanfail/api"
)

func TestL2GiveInput(t *testing.T) {
	q := ask(" INPUT = 'x' :S(END)", " $'INPUT' = 'x' :S(END)", " INPUT = '' :S(END)", " OUTPUT = INPUT")
	wantRan(t, q.in("a", "b"), `end 4 [1 1 1 1] ["a"]`)
	wantRan(t, q, `end 4 [1 1 1 1] []`)
}

func TestL2GiveOutput(t *testing.T) {
	wantRan(t, ask(" OUTPUT = 'a' :F(END)", " $'OUTPUT' = 'b' :F(END)", " OUTPUT = '' :F(END)", " OUTPUT = 'a'"), `end 4 [1 1 1 1] ["a" "b" "" "a"]`)
	wantRan(t, ask(" OUTPUT = INPUT").in("a\nb"), `end 1 [1] ["a\nb"]`)
}

// Items of these names are items as all others.
func TestL2ItemsOfThoseNames(t *testing.T) {
	wantRan(t, ask(" INPUT<'k'> = 'a' :F(END)", " OUTPUT<'k'> = 'b' :F(END)", " X = INPUT<'k'> & OUTPUT<'k'>", " Y = INPUT<1> & OUTPUT<1>", " Z = INPUT").in("line"),
		`end 5 [1 1 1 1 1] [] X="ab" Z="line" INPUT<"k">="a" OUTPUT<"k">="b"`)
	wantRan(t, ask(" INPUT<''> = 'a'", " OUTPUT<''> = 'b'", " OUTPUT = OUTPUT & INPUT<''> & OUTPUT<''>", " INPUT<''> ? ['a'] = 'c'").in("line"),
		`end 5 [1 1 1 1] ["ab"] INPUT<"">="c" OUTPUT<"">="b"`)
}

func TestL2ReadOutput(t *testing.T) {
	wantRan(t, ask(" X = OUTPUT :F(END)", " OUTPUT = 'a'", " X = OUTPUT & 'x' & $'OUTPUT' :F(END)", " OUTPUT = SIZE(OUTPUT)"), `end 4 [1 1 1 1] ["a" "0"] X="x"`)
}

func TestL2ReadInput(t *testing.T) {
	wantRan(t, ask(" X = INPUT :S(END)", " Y = 1"), `end 2 [1 1] [] Y="1"`)
	wantRan(t, ask(" A = INPUT", " B = $'INPUT'", " C = INPUT & INPUT", " D = INPUT :S(END)", " E = INPUT :S(END)", " F = 1").in("a", "", "b", "c"),
		`end 6 [1 1 1 1 1 1] [] A="a" C="bc" F="1"`)
	wantRan(t, ask(" INPUT", " INPUT :F(END)", " INPUT :F(END)", " X = 1").in("", ""), `end 3 [1 1 1 0] []`)
	// A line that has been read is gone, whatever becomes of what it was read for.
	wantRan(t, ask(" A = INPUT & INPUT & INPUT", " B = INPUT", " INPUT = INPUT").in("a", "b"), `end 3 [1 1 1] []`)
	wantRan(t, ask(" A = INPUT / 0", " B = INPUT").in("1", "2"), `end 2 [1 1] [] B="2"`)
}

// A text that is too long can come of StReplace alone.
func TestL2MaxText(t *testing.T) {
	for _, place := range []string{"X", "$'X'", "T<1>", "$(T<2> & 'X')", "T<'a' & 'b'>"} {
		lines := []string{" " + place + " = DUPL('a', 65535)", " " + place + " ? [POS(0)] = 'b' :F(END)", " OUTPUT = SIZE(" + place + ")"}
		end := " OUTPUT = SUBSTR(" + place + ", 1, 2)"
		wantTold(t, ask(append(lines, " "+place+" ? [POS(0)] = 'c' :S(END)", end)...), "65536", "ba")
		wantTold(t, ask(append(lines, " "+place+" ? [LEN(1)] = 'cd' :S(END)", end)...), "65536", "ba")
		wantTold(t, ask(append(lines, " "+place+" ? [LEN(1)] = 'c' :F(END)", end)...), "65536", "ca")
		wantTold(t, ask(append(lines, " "+place+" ? [LEN(65535)] = DUPL('d', 65536) :S(END)", end)...), "65536", "ba")
		wantTold(t, ask(append(lines, " "+place+" ? [LEN(65536)] = DUPL('d', 65536) :F(END)", end)...), "65536", "dd")
	}
	wantRan(t, ask(" X = DUPL('a', 65536) :F(END)", " OUTPUT = X :F(END)", " T<X> = X"), `end 3 [1 1 1] ["aa".."aa":65536] X="aa".."aa":65536 T<"aa".."aa":65536>="aa".."aa":65536`)
}

// telling are lines that tell so many lines of so many bytes.
func telling(lines, size int) []string {
	return slices.Concat([]string{fmt.Sprintf(" X = DUPL('a', %d)", size)}, times(lines, " OUTPUT = X"))
}

func TestL2ToldAtMost(t *testing.T) {
	all := func(n int) string { return strings.TrimSpace(strings.Repeat(" 1", n)) }
	// Sixteen lines of 65535 bytes, each counting one more, are just MaxStore.
	ran, comings := answer(t, ask(append(telling(16, 65535), " Y = 'still'")...))
	if ran.How != api.RanEnd || len(ran.Output) != 16 || len(ran.Vars) != 2 {
		t.Errorf("MaxStore told: %s", show(ran, comings))
	}
	ran, comings = answer(t, ask(append(telling(16, 65535), " OUTPUT = ''", " Y = 'no more'")...))
	if ran.How != api.RanMuch || ran.Steps != 18 || len(ran.Output) != 16 || len(ran.Vars) != 1 || fmt.Sprint(comings) != "["+all(18)+" 0]" {
		t.Errorf("an empty line more told: %s", show(ran, comings))
	}
	// Fifteen lines of MaxText bytes leave room for one of 65520 bytes.
	for size, how := range map[int]int{65519: api.RanEnd, 65520: api.RanEnd, 65521: api.RanMuch, 65522: api.RanMuch} {
		ran, comings = answer(t, ask(append(telling(15, 65536), fmt.Sprintf(" OUTPUT = DUPL('b', %d)", size))...))
		if ran.How != how || ran.Steps != 17 || len(ran.Output) != 15+map[int]int{api.RanEnd: 1}[how] {
			t.Errorf("fifteen lines, and one of %d: %s", size, show(ran, comings))
		}
	}
}

// Empty lines count, too: a byte each.
func TestL2ToldEmptyLines(t *testing.T) {
	q := ask(append(telling(15, 65536), " OUTPUT = DUPL('b', 65515)", "L OUTPUT = '' :(L)")...)
	ran, comings := answer(t, q)
	if ran.How != api.RanMuch || len(ran.Output) != 15+1+5 || ran.Steps != 1+15+1+6 {
		t.Errorf("five empty lines fit: %s", show(ran, comings))
	}
}

// What was told in a match, at once or in the end, counts likewise.
func TestL2ToldInMatches(t *testing.T) {
	for _, c := range []struct {
		line, want string
	}{
		{" 'abc' ? [LEN(1) $ OUTPUT FAIL]", `much`},
		{" 'abc' ? [LEN(1) . OUTPUT]", `much`},
		{" 'abc' ? [@OUTPUT]", `much`},
		{" 'abc' ? [LEN(1) $ X]", `end`},
	} {
		ran, comings := answer(t, ask(append(telling(16, 65535), c.line)...))
		if got := show(ran, comings); !strings.HasPrefix(got, c.want) || len(ran.Output) != 16 {
			t.Errorf("%q behind MaxStore bytes told: %s; want %s", c.line, got, c.want)
		}
	}
	ran, comings := answer(t, ask(append(telling(15, 65536), " OUTPUT = DUPL('b', 65516)", " 'abc' ? [LEN(1) $ OUTPUT FAIL]")...))
	if ran.How != api.RanMuch || !slices.Equal(ran.Output[16:], []string{"a", "b"}) {
		t.Errorf("four bytes left, two lines of a byte fit: %s", show(ran, comings))
	}
}

// keeping are lines that keep MaxStore bytes in the variables A0 to A15.
func keeping() []string {
	var out []string
	for i := range 16 {
		out = append(out, fmt.Sprintf(" A%d = DUPL('a', 65536)", i))
	}
	return out
}

// wantKept: behind lines ahead, by which it is full, these lines come to such an end, in the last one come to.
func wantKept(t *testing.T, ahead []string, how, more int, lines ...string) {
	t.Helper()
	ran, comings := answer(t, ask(slices.Concat(ahead, lines)...))
	if ran.How != how || ran.Steps != len(ahead)+more {
		t.Errorf("%q: %s; want how %d, %d steps more", lines, show(ran, comings), how, more)
	}
}

func TestL2KeptAtMost(t *testing.T) {
	wantKept(t, keeping(), api.RanEnd, 0)
	wantKept(t, keeping(), api.RanMuch, 1, " B = 'b'", " OUTPUT = 'no more'")
	wantKept(t, keeping(), api.RanMuch, 1, " $'B' = 'b'", " OUTPUT = 'no more'")
	wantKept(t, keeping(), api.RanMuch, 1, " T<''> = 'b'", " OUTPUT = 'no more'")
	wantKept(t, keeping(), api.RanMuch, 1, " T<'k'> = 'b'", " OUTPUT = 'no more'")
	wantKept(t, keeping(), api.RanEnd, 5, " B = ''", " T<'k'> = ''", " A3 = A4", " A3 = A3", " OUTPUT = A3")
	wantKept(t, keeping(), api.RanMuch, 5, " A3 = ''", " B = DUPL('b', 65535)", " C = 'c'", " C = ''", " C = 'cc'", " C = 'd'")
	wantKept(t, keeping(), api.RanMuch, 4, " A3 = 'x'", " A3 = DUPL('b', 65536)", " A3 = DUPL('b', 65535)", " B = 'bb'", " B = 'b'")
	wantKept(t, keeping(), api.RanEnd, 3, " A3 = DUPL('b', 65535)", " B = 'b'", " B = 'c'")
}

// What is given where there is no room is not given: all stays as it was.
func TestL2KeptStays(t *testing.T) {
	ran, comings := answer(t, ask(slices.Concat(keeping(), []string{" A5 = DUPL('b', 65535)", " B = 'c'", " A5 = DUPL('d', 65536) :S(END)F(END)"})...))
	if ran.How != api.RanMuch || ran.Steps != 19 || len(ran.Vars) != 17 {
		t.Fatalf("one byte more than MaxStore: %s", show(ran, comings))
	}
	for _, g := range ran.Vars {
		want := strings.Repeat("a", 65536)
		switch g.Name {
		case "A5":
			want = strings.Repeat("b", 65535)
		case "B":
			want = "c"
		}
		if g.Text != want {
			t.Errorf("%s has %s; want %s", g.Name, brief(g.Text), brief(want))
		}
	}
}

// Of items that have something the keys count as the texts do; names count nothing.
func TestL2KeptItems(t *testing.T) {
	var items []string
	for i := range 8 {
		items = append(items, fmt.Sprintf(" T<DUPL('k', 65535) & %d> = DUPL('a', 65536)", i))
	}
	wantKept(t, items, api.RanEnd, 0)
	wantKept(t, items, api.RanMuch, 1, " B = 'b'", " OUTPUT = 'no more'")
	wantKept(t, items, api.RanMuch, 1, " T<''> = 'b'", " OUTPUT = 'no more'")
	wantKept(t, items, api.RanMuch, 1, " T<DUPL('k', 65535) & 8> = 'b'", " OUTPUT = 'no more'")
	wantKept(t, items, api.RanEnd, 3, " T<DUPL('k', 65535) & 8> = ''", " T<DUPL('k', 65535) & 0> = DUPL('b', 65536)", " B = ''")
	// An item that has nothing any more leaves the room of its key, too.
	empty := " T<DUPL('k', 65535) & 0> = ''"
	wantKept(t, items, api.RanEnd, 3, empty, " A = DUPL('b', 65536)", " B = DUPL('b', 65536)")
	wantKept(t, items, api.RanMuch, 4, empty, " A = DUPL('b', 65536)", " B = DUPL('b', 65536)", " C = 'c'", " C = ''")
	wantKept(t, items, api.RanMuch, 4, empty, " A = DUPL('b', 65536)", " B = DUPL('b', 65534)", " C<'cc'> = 'c'", " C = ''")
	wantKept(t, items, api.RanEnd, 4, empty, " A = DUPL('b', 65536)", " B = DUPL('b', 65534)", " C<'c'> = 'c'")
	wantKept(t, items, api.RanEnd, 4, empty, " A = DUPL('b', 65536)", " B = DUPL('b', 65534)", " ABCDEFGHIJKLMNOP<'c'> = 'c'")
	wantKept(t, items, api.RanEnd, 4, empty, " A = DUPL('b', 65536)", " B = DUPL('b', 65535)", " ABCDEFGHIJKLMNOP = 'c'")
	// Of one that has something already the key counts once.
	wantKept(t, items, api.RanMuch, 5, empty, " C<'cc'> = 'd'", " C<'cc'> = DUPL('d', 65536)", " A = DUPL('b', 65534)", " B = 'b'", " B = ''")
}

// What is told and what is kept have room apart from one another.
func TestL2ToldAndKept(t *testing.T) {
	var out []string
	for i := range 16 {
		out = append(out, fmt.Sprintf(" OUTPUT = SUBSTR(A%d, 1, 65535)", i))
	}
	wantKept(t, keeping(), api.RanEnd, 16, out...)
	wantKept(t, keeping(), api.RanMuch, 17, append(out, " OUTPUT = ''", " A1 = ''")...)
	wantKept(t, keeping(), api.RanMuch, 17, append(out, " B = 1", " A1 = ''")...)
}

// What is kept counts in matches, too: what is given there, at once or in the end.
func TestL2KeptInMatches(t *testing.T) {
	wantKept(t, keeping(), api.RanMuch, 3, " 'a' ? [LEN(1) $ B]", " A1 = ''")
	wantKept(t, keeping(), api.RanMuch, 3, " 'a' ? [LEN(1) . B]", " A1 = ''")
	wantKept(t, keeping(), api.RanEnd, 4, " 'a' ? [LEN(0) . B]", " A1 = ''")
	ran, comings := answer(t, ask(slices.Concat(keeping(), []string{" A0 = DUPL('a', 65534)", " 'abc' ? [LEN(1) . B LEN(1) . C LEN(1) . D LEN(0) . A0]", " A1 = ''"})...))
	if got := show(ran, comings); ran.How != api.RanMuch || !strings.HasSuffix(got, ` B="a" C="b"`) || comings[18] != 0 {
		t.Errorf("two bytes left, three are given: %s", got)
	}
}
