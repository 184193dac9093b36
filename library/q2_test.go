package library_test

import (
	"slices"
	"strings"
	"testing"

	"scanfail/api"
	"scanfail/check"
	"scanfail/library"
	"scanfail/run"
)

// Each program is read, is right, and leaves no statement that can't be come to; there is a model of each.
func TestQ2Right(t *testing.T) {
	for _, name := range library.Names() {
		l := program(t, name)
		if reached, fault := check.Reached(l); fault != (api.Fault{}) || slices.Contains(reached, false) {
			t.Errorf("%s: come to %v, fault %v", name, reached, fault)
		}
		if models[name] == nil {
			t.Errorf("%s: there is no model", name)
		}
	}
}

// odd are lines that may be taken for numbers, and lines that are none.
var odd = []string{
	"0", "-0", "+0", "00", "1", "+1", "01", "2", "3", "4", "5", "+5", "007", "0012", "-1", "-3", "-007", " 6 ", "\t7", "8 \t", "  -9",
	"9223372036854775806", "9223372036854775807", "9223372036854775808", "-9223372036854775807", "-9223372036854775808", "-9223372036854775809", "99999999999999999999", "-99999999999999999999",
	"", " ", "\t ", "x", "1x", "x1", "-", "+", "--1", "+-1", "1 2", "1.5", "1,5", "0x10", "1e3", "\x00", "1\x00", "\xff",
}

// asked are lines that come in.
func asked() [][]string {
	out := [][]string{
		nil, {""}, {"", ""}, {"a"}, {"a", "a"}, {"12", "8", "x"}, {"ABC  z", "abba", "(a)(b)", ")(", ""}, {"-3", "0"}, {"1994", "6"},
		{"3", "b", "a", "", "c", "a"}, {"b", "aa", "a", "aa", "b", "", "ab"}, {"2", " two  words ", "a,b,,c", ",", "((", "(()", "EeXYZaz019"},
		{"10", "-4", "007", "x", "99999999999999999999", "3", "", "3"}, {"\x00\xff", "\xff", "\n", "a\nb", "é"},
	}
	for i, s := range odd {
		out = append(out, []string{s}, []string{s, "6", "4"}, []string{"11", s, "x"}, []string{s, odd[(i+7)%len(odd)], odd[(i+20)%len(odd)], s})
	}
	return out
}

// isSaid tells whether Q2 says what a program tells of lines: roman looks its signs up in a text that has others, too, and pascal's rows have numbers that are none from the 68th on.
func isSaid(name string, in []string) bool {
	switch name {
	case "roman":
		return !strings.ContainsAny(strings.Join(in, ""), ",IVX")
	case "pascal":
		n, ok := first(in)
		return !ok || n.Sign() < 0 || n.IsInt64() && n.Int64() <= 67
	}
	return true
}

// All programs, with all sorts of lines.
func TestQ2Models(t *testing.T) {
	for _, name := range library.Names() {
		t.Run(name, func(t *testing.T) {
			t.Parallel()
			ended := 0
			for _, in := range asked() {
				if isSaid(name, in) && ask(t, name, in...).tellsAsModel(models[name]) {
					ended++
				}
			}
			if ended < 150 {
				t.Errorf("only %d runs ended by themselves", ended)
			}
		})
	}
}

// Within no steps nothing is told, within too few what comes first.
func TestQ2Limits(t *testing.T) {
	for _, name := range library.Names() {
		in := []string{"12", "8", "ab", "(1)"}
		all := ran(t, name, in).Output
		told := 0
		for limit := range 2000 {
			r, _, fault := run.Run(program(t, name), in, limit)
			if fault != (api.Fault{}) || len(r.Output) < told || !slices.Equal(r.Output, all[:min(len(r.Output), len(all))]) {
				t.Fatalf("%s, limit %d: tells %s, fault %v; in the end %s", name, limit, brief(r.Output), fault, brief(all))
			}
			told = len(r.Output)
			if r.How == api.RanEnd {
				break
			}
		}
	}
}
