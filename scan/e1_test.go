package scan_test

import (
	"fmt"
	"math"
	"strings"
	"testing"

	"scanfail/api"
	"scanfail/scan"
)

func rule(name string, p api.Pat) api.Rule { return api.Rule{Name: name, Pat: p} }

// many are n rules with nothing wrong.
func many(n int) []api.Rule {
	var out []api.Rule
	for i := range n {
		out = append(out, rule(fmt.Sprintf("R%d", i), lit("a")))
	}
	return out
}

// wantRules asks Rules, and that Match and Ways say the same.
func wantRules(t *testing.T, what string, l []api.Rule, want api.Errno) {
	t.Helper()
	if got := scan.Rules(l); got != want {
		t.Errorf("Rules, %s: error %d; want %d", what, got, want)
	}
	q := question{l, lit(""), "", much}
	if want == api.OK {
		wantMatch(t, q, true, api.Match{Found: true, Ticks: 1})
		wantWays(t, q, 0, 1, []api.Way{{}}, false)
		return
	}
	wantNoMatch(t, q, true, want)
	wantNoMatch(t, q, false, want)
	wantNoWays(t, q, 0, 1, want)
}

func TestE1RulesNothingWrong(t *testing.T) {
	wantRules(t, "nil", nil, api.OK)
	wantRules(t, "none", []api.Rule{}, api.OK)
	wantRules(t, "one", rules("A := 'a'"), api.OK)
	wantRules(t, "a name of one letter, and one that is as long as can be", rules("Z := FAIL", "ABCDEFGHIJKLMN09 := FAIL"), api.OK)
	wantRules(t, "names of which one begins another one", rules("A := 'a'", "AA := 'a'", "A0 := 'a'"), api.OK)
	wantRules(t, "such that call themselves, one another, and nobody", rules("A := *A", "B := *C 'x'", "C := *B | *NOBODY"), api.OK)
	wantRules(t, "the same pattern", rules("A := ABORT", "B := ABORT"), api.OK)
	wantRules(t, "names that are kinds' words", rules("LEN := 'a'", "ARB := 'b'"), api.OK)
}

func TestE1RulesTooMany(t *testing.T) {
	wantRules(t, "as many as can be", many(api.MaxRules), api.OK)
	wantRules(t, "one more", many(api.MaxRules+1), api.ErrMany)
	wantRules(t, "many more", make([]api.Rule, 1000), api.ErrMany)
	l := many(api.MaxRules + 1)
	l[0] = rule("", bare(99))
	wantRules(t, "one more, and the first one is wrong", l, api.ErrMany)
	l = many(api.MaxRules)
	l[api.MaxRules-1].Name = "R0"
	wantRules(t, "as many as can be, the last one named as the first one", l, api.ErrName)
	l = many(api.MaxRules)
	l[api.MaxRules-1].Pat = bare(0)
	wantRules(t, "as many as can be, the last one's pattern is none", l, api.ErrKind)
}

func TestE1RulesNames(t *testing.T) {
	for _, name := range []string{"", "a", "1", "1A", "A a", "A ", " A", "Aa", "A_", "Ä", "A\x00", "ABCDEFGHIJKLMNOPQ", strings.Repeat("A", 1000)} {
		wantRules(t, fmt.Sprintf("the name %q", brief(name)), []api.Rule{rule(name, lit("a"))}, api.ErrName)
		wantRules(t, fmt.Sprintf("the name %q behind others", brief(name)), append(many(3), rule(name, lit("a"))), api.ErrName)
	}
	wantRules(t, "a name twice", rules("A := 'a'", "A := 'a'"), api.ErrName)
	wantRules(t, "a name twice, others between", rules("A := 'a'", "B := 'a'", "C := 'a'", "A := 'b'"), api.ErrName)
	wantRules(t, "the second name twice", rules("A := 'a'", "B := 'a'", "B := 'b'"), api.ErrName)
}

// faulty are patterns with each error that a pattern can have.
func faulty() map[api.Errno]api.Pat {
	deep := bare(api.PatArb)
	for range api.MaxDepth {
		deep = arbno(deep)
	}
	return map[api.Errno]api.Pat{
		api.ErrKind:  alt(lit("a"), bare(25)),
		api.ErrMuch:  deep,
		api.ErrFit:   text(api.PatAny, ""),
		api.ErrRange: number(api.PatLen, -1),
		api.ErrName:  call("a"),
		api.ErrMany:  cat(lit("a")),
	}
}

func TestE1RulesPatterns(t *testing.T) {
	for err, p := range faulty() {
		wantRules(t, "a wrong pattern "+tell(p), []api.Rule{rule("A", p)}, err)
		wantRules(t, "behind others a wrong pattern "+tell(p), append(many(5), rule("A", p)), err)
	}
}

// One by one: of each rule the name, then the pattern; then the next rule.
func TestE1RulesOrder(t *testing.T) {
	for err, p := range faulty() {
		wantRules(t, "a wrong name, and its pattern "+tell(p), []api.Rule{rule("a", p)}, api.ErrName)
		wantRules(t, "a name twice, and its pattern "+tell(p), []api.Rule{rule("A", lit("")), rule("A", p)}, api.ErrName)
		wantRules(t, "ahead of a wrong name the pattern "+tell(p), []api.Rule{rule("A", p), rule("a", lit(""))}, err)
		wantRules(t, "ahead of the same name the pattern "+tell(p), []api.Rule{rule("A", p), rule("A", lit(""))}, err)
		wantRules(t, "ahead of another one that is wrong the pattern "+tell(p), []api.Rule{rule("A", p), rule("B", bare(0))}, err)
	}
}

func TestE1WrongPattern(t *testing.T) {
	for err, p := range faulty() {
		wantNoMatch(t, question{nil, p, "a", much}, true, err)
		wantNoMatch(t, question{nil, p, "a", much}, false, err)
		wantNoWays(t, question{nil, p, "a", much}, 0, 1, err)
	}
}

// A rule is looked at, even if nobody calls it.
func TestE1RulesThatNobodyCalls(t *testing.T) {
	for err, p := range faulty() {
		q := question{append(many(2), rule("A", p)), lit("a"), "a", much}
		wantNoMatch(t, q, false, err)
		wantNoWays(t, q, 0, 1, err)
	}
}

func TestE1Subject(t *testing.T) {
	q := question{nil, bare(api.PatRem), full, much}
	wantMatch(t, q, true, api.Match{Found: true, To: api.MaxText, Ticks: 1})
	wantWays(t, q, api.MaxText, 2, []api.Way{{To: api.MaxText}}, false)
	for _, s := range []string{over, over + over} {
		q.subject = s
		wantNoMatch(t, q, true, api.ErrMuch)
		wantNoMatch(t, q, false, api.ErrMuch)
		wantNoWays(t, q, 0, 1, api.ErrMuch)
	}
}

func TestE1Fuel(t *testing.T) {
	q := ask("'a'", "a")
	for _, fuel := range []int{math.MinInt, -api.MaxFuel, -1, api.MaxFuel + 1, math.MaxInt} {
		q.fuel = fuel
		wantNoMatch(t, q, true, api.ErrRange)
		wantNoMatch(t, q, false, api.ErrRange)
		wantNoWays(t, q, 0, 1, api.ErrRange)
	}
	for _, fuel := range []int{1, 2, api.MaxFuel - 1, api.MaxFuel} {
		q.fuel = fuel
		wantMatch(t, q, true, api.Match{Found: true, To: 1, Ticks: 1})
		wantWays(t, q, 0, 1, []api.Way{{To: 1}}, false)
	}
	q.fuel = 0
	wantNoMatch(t, q, true, api.ErrFuel)
	wantNoWays(t, q, 0, 1, api.ErrFuel)
}

// Whatever else is wrong, the first error is told.
func TestE1Order(t *testing.T) {
	const parts = 6
	errs := [parts]api.Errno{api.ErrKind, api.ErrName, api.ErrMuch, api.ErrRange, api.ErrRange, api.ErrRange}
	for mask := range 1 << parts {
		q, at, most := question{nil, lit("a"), "a", 5}, 0, 5
		first := api.OK
		for i := parts - 1; i >= 0; i-- {
			if mask>>i&1 == 0 {
				continue
			}
			first = errs[i]
			switch i {
			case 0:
				q.p = bare(0)
			case 1:
				q.rules = []api.Rule{rule("a", lit("a"))}
			case 2:
				q.subject = over
			case 3:
				q.fuel = -1
			case 4:
				at = -1
			case 5:
				most = -1
			}
		}
		if first == api.OK {
			continue
		}
		wantNoWays(t, q, at, most, first)
		if mask < 1<<4 {
			wantNoMatch(t, q, false, first)
			wantNoMatch(t, q, true, first)
		}
	}
}

// What is wrong with the pattern comes ahead of what is wrong with the rules, whatever that is.
func TestE1PatternAheadOfRules(t *testing.T) {
	for err, p := range faulty() {
		q := question{make([]api.Rule, api.MaxRules+1), p, "a", much}
		wantNoMatch(t, q, false, err)
		wantNoWays(t, q, 0, 1, err)
	}
}
