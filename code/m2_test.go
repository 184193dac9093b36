package code_test

import (
	"slices"
	"testing"

	"scanfail/api"
	"scanfail/code"
)

// A way on to Always is the only one.
func TestM2Always(t *testing.T) {
	wantCode(t, []string{" X :(L)", "", "L"}, []int{0, 4, 6}, step(0, 3), read("X"), drop(), jump(6), step(1, 5), jump(6), step(2, 7), jump(8), end())
	wantCode(t, []string{" :(END)"}, []int{0}, step(0, 1), end(), end())
	wantCode(t, []string{" :(RETURN)"}, []int{0}, step(0, 1), returns(), end())
	wantCode(t, []string{" :(FRETURN)"}, []int{0}, step(0, 1), fails(), end())
}

// Always beside Yes or Noes: Check does not let it.
func TestM2AlwaysBesideOthers(t *testing.T) {
	for _, s := range []api.Statement{{Always: "L", Yes: "L"}, {Always: "L", Noes: "L"}, {Always: "L", Yes: "L", Noes: "L"}, {Always: "END", Yes: "L", Noes: "RETURN"}} {
		s.Kind = api.StEmpty
		wantFault(t, []api.Statement{{Kind: api.StEmpty, Label: "L"}, s}, api.ErrFit, 1)
	}
}

// Yes and Noes that are the same are one way.
func TestM2YesAndNoesTheSame(t *testing.T) {
	wantCode(t, []string{" X :S(L)F(L)", "", "L"}, []int{0, 4, 6}, step(0, 3), read("X"), drop(), jump(6), step(1, 5), jump(6), step(2, 7), jump(8), end())
	wantCode(t, []string{" X :S(END)F(END)"}, []int{0}, step(0, 3), read("X"), drop(), end(), end())
	wantCode(t, []string{" X :S(RETURN)F(RETURN)"}, []int{0}, step(0, 3), read("X"), drop(), returns(), end())
	wantCode(t, []string{" X :S(FRETURN)F(FRETURN)"}, []int{0}, step(0, 3), read("X"), drop(), fails(), end())
	wantCode(t, []string{" X", " Y"}, []int{0, 4}, step(0, 3), read("X"), drop(), jump(4), step(1, 7), read("Y"), drop(), jump(8), end())
	wantCode(t, []string{"L X :S(L)F(L)"}, []int{0}, step(0, 3), read("X"), drop(), jump(0), end())
}

// Of two ways the one to Yes is first, and the one to Noes, the last one, is where it goes on when it fails.
func TestM2YesAndNoes(t *testing.T) {
	wantCode(t, []string{" X :S(L)F(M)", "L", "M"}, []int{0, 5, 7}, step(0, 4), read("X"), drop(), jump(5), jump(7), step(1, 6), jump(7), step(2, 8), jump(9), end())
	wantCode(t, []string{" X :S(M)F(L)", "L", "M"}, []int{0, 5, 7}, step(0, 4), read("X"), drop(), jump(7), jump(5), step(1, 6), jump(7), step(2, 8), jump(9), end())
	wantCode(t, []string{" X :S(END)F(RETURN)"}, []int{0}, step(0, 4), read("X"), drop(), end(), returns(), end())
	wantCode(t, []string{" X :S(RETURN)F(FRETURN)"}, []int{0}, step(0, 4), read("X"), drop(), returns(), fails(), end())
	wantCode(t, []string{" X :S(FRETURN)F(END)"}, []int{0}, step(0, 4), read("X"), drop(), fails(), end(), end())
	wantCode(t, []string{"L X :S(L)F(END)"}, []int{0}, step(0, 4), read("X"), drop(), jump(0), end(), end())
}

// One of them alone: an empty one is the next statement.
func TestM2OneOfThemEmpty(t *testing.T) {
	wantCode(t, []string{" X :S(L)", "", "L"}, []int{0, 5, 7}, step(0, 4), read("X"), drop(), jump(7), jump(5), step(1, 6), jump(7), step(2, 8), jump(9), end())
	wantCode(t, []string{" X :F(L)", "", "L"}, []int{0, 5, 7}, step(0, 4), read("X"), drop(), jump(5), jump(7), step(1, 6), jump(7), step(2, 8), jump(9), end())
	wantCode(t, []string{" X :S(END)", ""}, []int{0, 5}, step(0, 4), read("X"), drop(), end(), jump(5), step(1, 6), jump(7), end())
	wantCode(t, []string{" X :F(END)", ""}, []int{0, 5}, step(0, 4), read("X"), drop(), jump(5), end(), step(1, 6), jump(7), end())
	wantCode(t, []string{" X :S(RETURN)"}, []int{0}, step(0, 4), read("X"), drop(), returns(), jump(5), end())
	wantCode(t, []string{" X :F(FRETURN)"}, []int{0}, step(0, 4), read("X"), drop(), jump(5), fails(), end())
}

// Yes that leads to the next statement by its label is not the same as an empty one: these are two ways.
func TestM2TheSamePlaceByLabel(t *testing.T) {
	wantCode(t, []string{" X :S(L)", "L"}, []int{0, 5}, step(0, 4), read("X"), drop(), jump(5), jump(5), step(1, 6), jump(7), end())
	wantCode(t, []string{" X :F(L)", "L"}, []int{0, 5}, step(0, 4), read("X"), drop(), jump(5), jump(5), step(1, 6), jump(7), end())
}

// Labels ahead, behind, and the statement's own.
func TestM2Labels(t *testing.T) {
	wantCode(t, []string{"A X = 1 :(B)", "B X = 2 :S(A)F(C)", "C X = 3 :(C)", "D X = 4 :S(D)F(B)"}, []int{0, 5, 11, 16},
		step(0, 4), variable("X"), text("1"), write(), jump(5),
		step(1, 10), variable("X"), text("2"), write(), jump(0), jump(11),
		step(2, 15), variable("X"), text("3"), write(), jump(11),
		step(3, 21), variable("X"), text("4"), write(), jump(16), jump(5),
		end())
	wantCode(t, []string{"L :(L)"}, []int{0}, step(0, 1), jump(0), end())
	wantCode(t, []string{"L :S(L)"}, []int{0}, step(0, 2), jump(0), jump(3), end())
	wantCode(t, []string{"L :F(L)"}, []int{0}, step(0, 2), jump(3), jump(0), end())
}

// An empty label in the middle, and at the last statement.
func TestM2EmptyLabels(t *testing.T) {
	wantCode(t, []string{" :S(END)", " :F(END)", " :S(END)", " :F(END)", ""}, []int{0, 3, 6, 9, 12},
		step(0, 2), end(), jump(3),
		step(1, 5), jump(6), end(),
		step(2, 8), end(), jump(9),
		step(3, 11), jump(12), end(),
		step(4, 13), jump(14),
		end())
	wantCode(t, []string{"", " :S(END)"}, []int{0, 2}, step(0, 1), jump(2), step(1, 4), end(), jump(5), end())
	wantCode(t, []string{"", " :F(END)"}, []int{0, 2}, step(0, 1), jump(2), step(1, 4), jump(5), end(), end())
}

// Each kind of statement has the same ways on, behind its body.
func TestM2EachKind(t *testing.T) {
	for _, body := range []string{"", "X", "X ? ['a']", "X = 1", "X ? ['a'] = 1", "P := ['a']", "DEFINE F() L"} {
		for _, c := range []struct {
			ways string
			want func(here, behind int) []api.Instr
		}{
			{"", func(here, behind int) []api.Instr { return []api.Instr{jump(behind)} }},
			{" :(L)", func(here, behind int) []api.Instr { return []api.Instr{jump(0)} }},
			{" :(M)", func(here, behind int) []api.Instr { return []api.Instr{jump(here)} }},
			{" :S(N)", func(here, behind int) []api.Instr { return []api.Instr{jump(behind), jump(behind)} }},
			{" :S(L)F(M)", func(here, behind int) []api.Instr { return []api.Instr{jump(0), jump(here)} }},
			{" :S(RETURN)F(L)", func(here, behind int) []api.Instr { return []api.Instr{returns(), jump(0)} }},
			{" :F(FRETURN)", func(here, behind int) []api.Instr { return []api.Instr{jump(behind), fails()} }},
		} {
			out, starts, fault := code.Make(program(t, "L X = 1", "M "+body+c.ways, "N"))
			if fault != (api.Fault{}) || len(starts) != 3 {
				t.Fatalf("%q: %v, fault %v", body+c.ways, starts, fault)
			}
			want := c.want(starts[1], starts[2])
			if got := out[starts[2]-len(want) : starts[2]]; !slices.Equal(got, want) {
				t.Errorf("%q: ways on%s; want%s", body+c.ways, show(got), show(want))
			}
			if got := out[starts[1]]; got != step(1, starts[2]-1) {
				t.Errorf("%q: %v; want %v", body+c.ways, got, step(1, starts[2]-1))
			}
		}
	}
}

// An entry of a function is no way on: its name may be that of a label, a variable and a rule.
func TestM2EntriesAreNoWays(t *testing.T) {
	wantCode(t, []string{" DEFINE L() M", "L L = L() :(M)", "M L := ['a'] :S(L)"}, []int{0, 2, 7},
		step(0, 1), jump(2), step(1, 6), variable("L"), call("L", 0), write(), jump(7), step(2, 10), rule(2), jump(2), jump(11), end())
}
