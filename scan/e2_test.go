package scan_test

import (
	"strings"
	"testing"

	"scanfail/api"
)

// Each kind without kids: where its ways end, in order.
func TestE2Ends(t *testing.T) {
	for _, c := range []struct {
		p, subject string
		at         int
		want       []int
	}{
		{"'ab'", "abab", 0, []int{2}},
		{"'ab'", "abab", 1, nil},
		{"'ab'", "abab", 2, []int{4}},
		{"'ab'", "abab", 3, nil},
		{"'ab'", "abab", 4, nil},
		{"''", "ab", 0, []int{0}},
		{"''", "ab", 2, []int{2}},
		{"''", "", 0, []int{0}},
		{"'a'", "", 0, nil},

		{"LEN(0)", "ab", 1, []int{1}},
		{"LEN(2)", "ab", 0, []int{2}},
		{"LEN(2)", "ab", 1, nil},
		{"LEN(0)", "", 0, []int{0}},
		{"LEN(1)", "", 0, nil},
		{"LEN(65536)", "ab", 0, nil},

		{"ANY('ba')", "abc", 0, []int{1}},
		{"ANY('ba')", "abc", 1, []int{2}},
		{"ANY('ba')", "abc", 2, nil},
		{"ANY('ba')", "abc", 3, nil},
		{"NOTANY('ba')", "abc", 0, nil},
		{"NOTANY('ba')", "abc", 2, []int{3}},
		{"NOTANY('ba')", "abc", 3, nil}, // behind the end there is no byte
		{"ANY('ab')", "", 0, nil},
		{"NOTANY('ab')", "", 0, nil},
		{"ANY('a-c')", "b", 0, nil}, // nothing stands for a run

		{"SPAN('ab')", "abbac", 0, []int{4}},
		{"SPAN('ab')", "abbac", 3, []int{4}},
		{"SPAN('ab')", "abbac", 4, nil},
		{"SPAN('ab')", "abbac", 5, nil},
		{"SPAN('ab')", "abba", 1, []int{4}},
		{"SPAN('a')", "", 0, nil},

		{"BREAK('bc')", "aabac", 0, []int{2}},
		{"BREAK('bc')", "aabac", 2, []int{2}},
		{"BREAK('bc')", "aabac", 3, []int{4}},
		{"BREAK('bc')", "aabac", 5, nil},
		{"BREAK('x')", "aabac", 0, nil},
		{"BREAK('x')", "", 0, nil},

		{"BREAKX('bc')", "aabac", 0, []int{2, 4}},
		{"BREAKX('bc')", "aabbc", 2, []int{2, 3, 4}},
		{"BREAKX('bc')", "aabac", 3, []int{4}},
		{"BREAKX('bc')", "aabac", 5, nil},
		{"BREAKX('bc')", "aaba", 3, nil},
		{"BREAKX('x')", "", 0, nil},

		{"TAB(2)", "abc", 0, []int{2}},
		{"TAB(2)", "abc", 2, []int{2}},
		{"TAB(2)", "abc", 3, nil},
		{"TAB(3)", "abc", 0, []int{3}},
		{"TAB(4)", "abc", 0, nil},
		{"TAB(0)", "", 0, []int{0}},

		{"RTAB(1)", "abc", 0, []int{2}},
		{"RTAB(1)", "abc", 2, []int{2}},
		{"RTAB(1)", "abc", 3, nil},
		{"RTAB(3)", "abc", 0, []int{0}},
		{"RTAB(3)", "abc", 1, nil},
		{"RTAB(4)", "abc", 0, nil},
		{"RTAB(0)", "", 0, []int{0}},
		{"RTAB(65536)", "abc", 0, nil},

		{"POS(0)", "abc", 0, []int{0}},
		{"POS(2)", "abc", 1, nil},
		{"POS(2)", "abc", 2, []int{2}},
		{"POS(2)", "abc", 3, nil},
		{"POS(3)", "abc", 3, []int{3}},
		{"POS(4)", "abc", 3, nil},
		{"RPOS(0)", "abc", 3, []int{3}},
		{"RPOS(0)", "abc", 2, nil},
		{"RPOS(1)", "abc", 2, []int{2}},
		{"RPOS(3)", "abc", 0, []int{0}},
		{"RPOS(4)", "abc", 0, nil},
		{"RPOS(0)", "", 0, []int{0}},

		{"REM", "abc", 0, []int{3}},
		{"REM", "abc", 3, []int{3}},
		{"REM", "", 0, []int{0}},

		{"ARB", "ab", 0, []int{0, 1, 2}},
		{"ARB", "ab", 1, []int{1, 2}},
		{"ARB", "ab", 2, []int{2}},
		{"ARB", "", 0, []int{0}},

		{"BAL", "abc", 0, []int{1, 2, 3}},
		{"BAL", "abc", 2, []int{3}},
		{"BAL", "abc", 3, nil},
		{"BAL", "", 0, nil},
		{"BAL", "(a)(b)", 0, []int{3, 6}},
		{"BAL", "(a)(b)", 1, []int{2}},
		{"BAL", "(a)(b)", 2, nil},
		{"BAL", "a(b)c", 0, []int{1, 4, 5}},
		{"BAL", "((a)", 0, nil},
		{"BAL", "a((b)c", 0, []int{1}},
		{"BAL", "a)b", 0, []int{1}},
		{"BAL", ")(", 0, nil}, // as many, but no pair
		{"BAL", "a)(b", 0, []int{1}},
		{"BAL", "(())()x", 0, []int{4, 6, 7}},
		{"BAL", "([)]", 0, []int{3, 4}},

		{"FAIL", "abc", 0, nil},
		{"FAIL", "", 0, nil},
	} {
		wantEnds(t, ask(c.p, c.subject), c.at, c.want...)
	}
}

// Sets of bytes are of bytes, all 256 of them.
func TestE2AllBytes(t *testing.T) {
	var all []byte
	for b := range 256 {
		all = append(all, byte(b))
	}
	subject := string(all)
	for b := range 256 {
		one, others := subject[b:b+1], subject[:b]+subject[b+1:]
		for _, c := range []struct {
			p    api.Pat
			want []int
		}{
			{text(api.PatAny, one), []int{b + 1}},
			{text(api.PatAny, others), nil},
			{text(api.PatNotAny, one), nil},
			{text(api.PatNotAny, others), []int{b + 1}},
			{text(api.PatSpan, one), []int{b + 1}},
			{text(api.PatBreak, one), []int{b}},
			{text(api.PatBreakX, one), []int{b}},
			{lit(one), []int{b + 1}},
		} {
			wantEnds(t, question{nil, c.p, subject, much}, b, c.want...)
		}
	}
}

// What a kind does not name means nothing.
func TestE2WhatIsNotNamed(t *testing.T) {
	p := api.Pat{Kind: api.PatRem, Text: "x", N: -7, Name: "no name"}
	wantEnds(t, question{nil, p, "abc", much}, 1, 3)
	p = api.Pat{Kind: api.PatCat, Text: "x", N: -7, Name: "no name", Kids: []api.Pat{lit("a"), lit("b")}}
	wantEnds(t, question{nil, p, "abc", much}, 0, 2)
	p = api.Pat{Kind: api.PatAny, Text: "a", N: 7, Name: strings.Repeat("x", 100)}
	wantEnds(t, question{nil, p, "abc", much}, 0, 1)
}

func TestE2CatAndAlt(t *testing.T) {
	for _, c := range []struct {
		p, subject string
		want       []int
	}{
		{"'a' 'b'", "abc", []int{2}},
		{"'a' 'c'", "abc", nil},
		{"'b' 'a'", "abc", nil},
		{"'a' 'b' 'c' ''", "abc", []int{3}},
		{"ARB ARB", "ab", []int{0, 1, 2, 1, 2, 2}},
		{"ARB ARB RPOS(0)", "ab", []int{2, 2, 2}},
		{"'a' | 'ab' | 'abc'", "abc", []int{1, 2, 3}},
		{"'abc' | 'x' | 'a' | 'a'", "abc", []int{3, 1, 1}}, // each as often as it comes
		{"FAIL | FAIL", "abc", nil},
		{"('a' | 'ab') ('c' | 'bc' | '')", "abc", []int{3, 1, 3, 2}},
		{"('' | 'a') ('' | 'b') ('' | 'c')", "abc", []int{0, 1, 2, 3}},
		{"ARB | BREAKX('bc')", "abc", []int{0, 1, 2, 3, 1, 2}},
		{"('a' (LEN(1) | REM) | 'ab') ('c' | '')", "abc", []int{3, 2, 3, 3, 2}},
		{"(ARB | 'a') 'b'", "abab", []int{2, 4, 2}},
	} {
		wantEnds(t, ask(c.p, c.subject), 0, c.want...)
	}
}

func TestE2Arbno(t *testing.T) {
	for _, c := range []struct {
		p, subject string
		at         int
		want       []int
	}{
		{"ARBNO('a')", "aab", 0, []int{0, 1, 2}},
		{"ARBNO('a')", "aab", 1, []int{1, 2}},
		{"ARBNO('a')", "aab", 2, []int{2}},
		{"ARBNO('a')", "", 0, []int{0}},
		{"ARBNO('ab')", "ababa", 0, []int{0, 2, 4}},
		{"ARBNO('a' | 'aa')", "aaa", 0, []int{0, 1, 2, 3, 3, 2, 3}},
		{"ARBNO('aa' | 'a')", "aaa", 0, []int{0, 2, 3, 1, 3, 2, 3}},
		{"ARBNO(ARB)", "ab", 0, []int{0, 1, 2, 2}}, // the kid's first way ends where it began
		{"ARBNO('')", "ab", 0, []int{0}},
		{"ARBNO(FAIL)", "ab", 0, []int{0}},
		{"ARBNO(POS(0))", "ab", 0, []int{0}},
		{"ARBNO('' | 'a')", "aa", 0, []int{0, 1, 2}}, // the way that ends where it began is left, the next one is tried
		{"ARBNO('a' | '')", "aa", 0, []int{0, 1, 2}},
		{"ARBNO(ARBNO('a'))", "aa", 0, []int{0, 1, 2, 2}},
		{"ARBNO(ARBNO(''))", "aa", 0, []int{0}},
		{"ARBNO(REM)", "aa", 0, []int{0, 2}},
		{"ARBNO(LEN(1)) 'b'", "abab", 0, []int{2, 4}},
		{"ARBNO('a') ARBNO('a')", "aa", 0, []int{0, 1, 2, 1, 2, 2}},
		{"ARBNO(ANY('ab') | 'ab')", "ab", 0, []int{0, 1, 2, 2}},
	} {
		wantEnds(t, ask(c.p, c.subject), c.at, c.want...)
	}
}

// What a name is given on a way that is left is not given on the next ones.
func TestE2Cond(t *testing.T) {
	for _, c := range []struct {
		p, subject string
		want       []api.Way
	}{
		{"'a' . X", "abc", []api.Way{{To: 1, Given: gifts("X=a")}}},
		{"'' . X", "abc", []api.Way{{To: 0, Given: gifts("X=")}}},
		{"'b' . X", "abc", nil},
		{"LEN(2) . X", "abc", []api.Way{{To: 2, Given: gifts("X=ab")}}},
		{"ARB . X", "ab", []api.Way{{To: 0, Given: gifts("X=")}, {To: 1, Given: gifts("X=a")}, {To: 2, Given: gifts("X=ab")}}},
		{"ARB . X REM . Y", "ab", []api.Way{{To: 2, Given: gifts("X= Y=ab")}, {To: 2, Given: gifts("X=a Y=b")}, {To: 2, Given: gifts("X=ab Y=")}}},
		{"'a' . X | 'ab' . Y | 'abc'", "abc", []api.Way{{To: 1, Given: gifts("X=a")}, {To: 2, Given: gifts("Y=ab")}, {To: 3}}},
		{"('a' . X 'c' | 'ab' . Y) REM", "abc", []api.Way{{To: 3, Given: gifts("Y=ab")}}},
		{"('a' . X | '') ('b' . Y | '') ('c' . Z | '')", "abc", []api.Way{
			{To: 3, Given: gifts("X=a Y=b Z=c")}, {To: 2, Given: gifts("X=a Y=b")},
			{To: 1, Given: gifts("X=a")}, {To: 0},
		}},
		{"('a' . X LEN(1)) . Y", "abc", []api.Way{{To: 2, Given: gifts("X=a Y=ab")}}}, // what ended first is first
		{"(LEN(1) . X LEN(1) . Y) . Z REM . X", "abc", []api.Way{{To: 3, Given: gifts("X=a Y=b Z=ab X=c")}}},
		{"'a' . X . Y . X", "abc", []api.Way{{To: 1, Given: gifts("X=a Y=a X=a")}}},
		{"ARBNO(LEN(1) . X)", "abc", []api.Way{{To: 0}, {To: 1, Given: gifts("X=a")}, {To: 2, Given: gifts("X=a X=b")}, {To: 3, Given: gifts("X=a X=b X=c")}}},
		{"ARBNO(LEN(1) . X | LEN(2) . Y)", "ab", []api.Way{{To: 0}, {To: 1, Given: gifts("X=a")}, {To: 2, Given: gifts("X=a X=b")}, {To: 2, Given: gifts("Y=ab")}}},
		{"ARBNO('' . X)", "ab", []api.Way{{To: 0}}},
	} {
		wantWays(t, ask(c.p, c.subject), 0, api.MaxWays, c.want, false)
	}
}

func TestE2Told(t *testing.T) {
	for _, c := range []struct {
		p, subject string
		said       string
		found      bool
		to         int
	}{
		{"'a' $ X", "abc", "X=a", true, 1},
		{"'b' $ X", "abc", "", false, 0},
		{"'' $ X", "abc", "X=", true, 0},
		{"ARB $ X 'c'", "abc", "X= X=a X=ab", true, 3}, // also on ways that are left
		{"'a' $ X 'c'", "abc", "X=a", false, 0},
		{"ARB $ X FAIL", "ab", "X= X=a X=ab", false, 0},
		{"('a' $ X | 'ab' $ Y) 'c'", "abc", "X=a Y=ab", true, 3},
		{"(LEN(1) $ X LEN(1) $ Y) $ Z", "abc", "X=a Y=b Z=ab", true, 2},
		{"'a' $ X $ Y", "abc", "X=a Y=a", true, 1},
		{"ARBNO(LEN(1) $ X) RPOS(0)", "abc", "X=a X=b X=c", true, 3},
		{"ARBNO('' $ X) 'b'", "abc", "X=", false, 0}, // it is told, although it ends where it began
		{"@X 'a' @Y REM @Z", "abc", "X=0 Y=1 Z=3", true, 3},
		{"(@X | @Y) 'b'", "abc", "X=0 Y=0", false, 0},
		{"ARB @X FAIL", "ab", "X=0 X=1 X=2", false, 0},
		{"TAB(12) @X", "abcdefghijklm", "X=12", true, 12},
		{"@X $ Y", "abc", "X=0 Y=", true, 0},
	} {
		q := ask(c.p, c.subject)
		m, _ := modelMatch(q, true)
		wantMatch(t, q, true, api.Match{Found: c.found, To: c.to, Said: gifts(c.said), Ticks: m.Ticks})
	}
	q := question{nil, cat(bare(api.PatRem), cursor("X")), full, much}
	wantMatch(t, q, true, api.Match{Found: true, To: api.MaxText, Said: gifts("X=65536"), Ticks: 3})
}

// What is given and what is told are apart.
func TestE2GivenAndTold(t *testing.T) {
	q := ask("(LEN(1) . A $ B | LEN(2) $ C . D) 'c'", "abc")
	wantMatch(t, q, true, api.Match{Found: true, To: 3, Given: gifts("D=ab"), Said: gifts("B=a C=ab"), Ticks: 10})
}

func TestE2Call(t *testing.T) {
	brackets := "P := '(' *P ')' *P | ''"
	for _, c := range []struct {
		p, subject string
		rules      []string
		want       []int
	}{
		{"*A", "aab", []string{"A := 'a'"}, []int{1}},
		{"*A *A", "aab", []string{"A := 'a'"}, []int{2}},
		{"*A | *B", "aab", []string{"A := 'aab'", "B := 'a'"}, []int{3, 1}},
		{"*A", "ab", []string{"A := *B | *C", "B := ARB", "C := 'ab'"}, []int{0, 1, 2, 2}},
		{"*P", "()(())x", []string{brackets}, []int{6, 2, 0}},
		{"*P RPOS(0)", "(()())()", []string{brackets}, []int{8}},
		{"*P RPOS(0)", "(()()", []string{brackets}, nil},
		{"*D", "0110", []string{"D := ANY('01') (*D | '')"}, []int{4, 3, 2, 1}},
		{"*D", "0110", []string{"D := ANY('01') ('' | *D)"}, []int{1, 2, 3, 4}},
		{"*E RPOS(0)", "abb", []string{"E := 'a' *O | ''", "O := 'b' *O | *E"}, []int{3}},
	} {
		wantEnds(t, ask(c.p, c.subject, c.rules...), 0, c.want...)
	}
}

// Names that rules give are given as any others.
func TestE2CallGives(t *testing.T) {
	q := ask("*D . N", "01", "D := ANY('01') . B (*D | '')")
	wantWays(t, q, 0, api.MaxWays, []api.Way{{To: 2, Given: gifts("B=0 B=1 N=01")}, {To: 1, Given: gifts("B=0 N=0")}}, false)
	q = ask("*D $ N 'x'", "01", "D := ANY('01') $ B (*D | '')")
	m, _ := modelMatch(q, true)
	wantMatch(t, q, true, api.Match{Said: gifts("B=0 B=1 N=01 N=0"), Ticks: m.Ticks})
}

// The last rule is called as well as the first one.
func TestE2CallOfManyRules(t *testing.T) {
	l := many(api.MaxRules)
	for i := range l {
		l[i].Pat = number(api.PatLen, i)
	}
	for i := range l {
		wantEnds(t, question{l, call(l[i].Name), full, much}, 5, 5+i)
	}
}

// A rule that calls itself with no byte ahead goes on until the fuel is used up, however much there is.
func TestE2CallWithoutEnd(t *testing.T) {
	for _, r := range []string{"L := *L", "L := *L 'a' | 'a'", "L := '' *L", "L := *L . X", "L := *L $ X", "L := ARBNO(*L) FAIL", "L := *M", "L := (FAIL | *L) 'a'"} {
		for _, fuel := range []int{0, 1, 2, 1000, api.MaxFuel} {
			q := ask("*L", "aaa", r, "M := '' *L")
			q.fuel = fuel
			wantNoMatch(t, q, true, api.ErrFuel)
			wantNoMatch(t, q, false, api.ErrFuel)
			wantNoWays(t, q, 0, 1, api.ErrFuel)
		}
	}
}

// A rule may call itself as deep as the fuel goes.
func TestE2CallDeep(t *testing.T) {
	n := 19998
	q := ask("*A RPOS(0)", full[:n], "A := 'a' *A . X | ''")
	q.fuel = api.MaxFuel
	want := api.Match{Found: true, To: n, Ticks: 5*n + 7}
	for i := range n {
		want.Given = append(want.Given, api.Gift{Name: "X", Text: full[:i]})
	}
	wantMatch(t, q, true, want)
}

// A name without a rule is an error only where it is come to.
func TestE2CallOfNobody(t *testing.T) {
	for _, c := range []struct {
		p   string
		err api.Errno
	}{
		{"*Q", api.ErrName},
		{"'a' *Q", api.ErrName},
		{"'b' *Q", api.OK},
		{"'a' | *Q", api.OK}, // found ahead of it
		{"'b' | *Q", api.ErrName},
		{"ARBNO(*Q)", api.OK},
		{"ARBNO(*Q) 'b'", api.ErrName},
		{"FENCE 'b' | *Q", api.OK},
		{"ABORT | *Q", api.OK},
		{"*R", api.ErrName},
		{"'b' *R", api.OK},
		{"'a' $ X *Q", api.ErrName},
	} {
		q := ask(c.p, "ab", "R := 'a' *Q")
		m, err := modelMatch(q, true)
		if err != c.err {
			t.Fatalf("the model of %v: error %d; want %d", q, err, c.err)
		}
		if err != api.OK {
			wantNoMatch(t, q, true, err)
			wantNoWays(t, q, 0, 9, err)
			continue
		}
		wantMatch(t, q, true, m)
	}
	q := ask("'a' | *Q", "ab")
	wantWays(t, q, 0, 1, []api.Way{{To: 1}}, false)
	wantNoWays(t, q, 0, 2, api.ErrName) // it looks for another one
}

// The coming to the call itself counts ahead of its name.
func TestE2CallOfNobodyWithoutFuel(t *testing.T) {
	q := ask("'a' *Q", "ab")
	q.fuel = 2
	wantNoMatch(t, q, true, api.ErrFuel)
	wantNoWays(t, q, 0, 1, api.ErrFuel)
	q.fuel = 3
	wantNoMatch(t, q, true, api.ErrName)
	wantNoWays(t, q, 0, 1, api.ErrName)
}

func TestE2FenceAndAbort(t *testing.T) {
	for _, c := range []struct {
		p    string
		want []int
		cut  bool
	}{
		{"FENCE", []int{0}, true},
		{"ABORT", nil, true},
		{"'x' FENCE", nil, false}, // not come to
		{"'x' ABORT", nil, false},
		{"'a' FENCE", []int{1}, true},
		{"'a' ABORT", nil, true},
		{"FENCE 'x'", nil, true},
		{"ARB FENCE", []int{0}, true},
		{"FENCE ARB", []int{0, 1, 2, 3}, true}, // all ways behind it are tried
		{"ARB FENCE ARB", []int{0, 1, 2, 3}, true},
		{"'a' | FENCE | 'ab'", []int{1, 0}, true},
		{"'a' | ABORT | 'ab'", []int{1}, true},
		{"('a' FENCE 'x' | 'ab') | 'abc'", nil, true},
		{"('x' FENCE | 'ab') | 'abc'", []int{2, 3}, false},
		{"ARB 'b' FENCE 'x' | 'a'", nil, true},
		{"ARBNO('a' FENCE)", []int{0, 1}, true},
		{"ARBNO(FENCE) 'x' | 'a'", nil, true}, // nothing is behind a way that ends where it began
		{"ARBNO(FENCE)", []int{0}, true},
		{"ARBNO(ABORT)", []int{0}, true},
		{"(FENCE . X) 'x' | 'a'", nil, true},
		{"*F 'x' | 'a'", nil, true},
		{"*F 'a' | 'ab'", []int{1}, true},
		{"*S | 'a'", nil, true},
		{"('a' FENCE | 'ab' FENCE) LEN(1) LEN(1)", []int{3}, true},
	} {
		var ways []api.Way
		for _, to := range c.want {
			ways = append(ways, api.Way{To: to})
		}
		wantWays(t, ask(c.p, "abc", "F := FENCE", "S := ABORT"), 0, api.MaxWays, ways, c.cut)
	}
}

// How often a node is come to, of matches that are anchored.
func TestE2Ticks(t *testing.T) {
	for _, c := range []struct {
		p, subject string
		want       int
	}{
		{"'a'", "abc", 1},
		{"'x'", "abc", 1},
		{"FAIL", "abc", 1},
		{"ABORT", "abc", 1},
		{"ARB", "abc", 1},
		{"BREAKX('c')", "abc", 1},
		{"@X", "abc", 1},
		{"'a' 'b' 'c'", "abc", 4},
		{"'a' 'x' 'c'", "abc", 3},
		{"'x' 'b' 'c'", "abc", 2},
		{"'a' | 'b' | 'c'", "abc", 2},
		{"'x' | 'y' | 'a'", "abc", 4},
		{"'x' | 'y' | 'z'", "abc", 4},
		{"'a' . X", "abc", 2},
		{"'a' $ X . Y", "abc", 3},
		{"*A", "abc", 2},
		{"*AA", "abc", 6},
		{"ARBNO('a')", "aaa", 1}, // where it is: the kid is not come to
		{"ARBNO('a') 'b'", "aab", 7},
		{"ARBNO('a') 'x'", "aab", 8}, // the third time the kid does not match
		{"ARBNO('') 'x'", "aab", 4},
		{"ARB 'c'", "abc", 5},
		{"ARB FAIL", "abc", 6},
		{"BAL FAIL", "(a)b", 4},
		{"BREAKX('bc') FAIL", "abc", 4},
		{"(ARB ARB) FAIL", "ab", 1 + 1 + 1 + 3 + 6},
		{"('a' | 'ab') ('c' | 'bc')", "abc", 6},
		{"FENCE 'x' | 'a'", "abc", 4},
		{"ARBNO(ARBNO('a')) 'x'", "a", 9},
	} {
		wantTicks(t, ask(c.p, c.subject, "A := 'a'", "AA := *A *A"), true, c.want)
	}
}

// A long text and a long subject: nothing is looked at beyond them.
func TestE2Long(t *testing.T) {
	subject := full[:api.MaxText-1] + "b"
	for _, c := range []struct {
		p    api.Pat
		at   int
		want []int
	}{
		{lit(full), 0, nil},
		{lit(subject), 0, []int{api.MaxText}},
		{lit(subject), 1, nil},
		{lit(subject[1:]), 1, []int{api.MaxText}},
		{number(api.PatLen, api.MaxText), 0, []int{api.MaxText}},
		{number(api.PatLen, api.MaxText), 1, nil},
		{text(api.PatSpan, full), 0, []int{api.MaxText - 1}},
		{text(api.PatSpan, subject), 0, []int{api.MaxText}},
		{text(api.PatBreak, "b"), 0, []int{api.MaxText - 1}},
		{text(api.PatBreakX, "b"), 0, []int{api.MaxText - 1}},
		{text(api.PatBreakX, "b"), api.MaxText, nil},
		{text(api.PatAny, subject), api.MaxText - 1, []int{api.MaxText}},
		{text(api.PatAny, subject), api.MaxText, nil},
		{text(api.PatNotAny, full), api.MaxText - 1, []int{api.MaxText}},
		{number(api.PatTab, api.MaxText), 3, []int{api.MaxText}},
		{number(api.PatRTab, api.MaxText), 0, []int{0}},
		{number(api.PatPos, api.MaxText), api.MaxText, []int{api.MaxText}},
		{number(api.PatRPos, api.MaxText), 0, []int{0}},
	} {
		wantEnds(t, question{nil, c.p, subject, much}, c.at, c.want...)
	}
}
