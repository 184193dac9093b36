package gram_test

import (
	"fmt"
	"slices"
	"testing"

	"scanfail/api"
)

func TestH3Left(t *testing.T) {
	for _, c := range []struct {
		l    []string
		want string
	}{
		{nil, ""},
		{[]string{"A := 'a'"}, ""},
		{[]string{"A := *A"}, "A"},
		{[]string{"A := *A 'a' | 'b'"}, "A"},
		{[]string{"A := 'b' | *A 'a'"}, "A"},
		{[]string{"A := 'a' *A | ''"}, ""},
		{[]string{"A := 'a' | 'b' *A"}, ""},
		{[]string{"A := *B"}, ""},
		{[]string{"A := *B", "B := *A"}, "A B"},
		{[]string{"A := *B", "B := *A 'a'", "C := *A"}, "A B"},
		{[]string{"A := *B", "B := *C", "C := *A"}, "A B C"},
		{[]string{"A := *B", "B := *B"}, "B"},
		{[]string{"A := *B", "B := *C", "C := *B", "D := *A"}, "B C"},
		{[]string{"A := *B", "B := 'b' *A"}, ""},
		{[]string{"A := 'a' *B", "B := *A"}, ""},
		{[]string{"B := *B", "A := *A", "A0 := *A0", "AA := *AA"}, "A A0 AA B"},
		{[]string{"C := *A", "B := *C", "A := *B"}, "A B C"},
		{[]string{"E := *E '+' *T | *T", "T := *T 'x' *F | *F", "F := '(' *E ')' | 'a'"}, "E T"},
		{[]string{"P := '(' *P ')' *P | ''"}, ""},
		{[]string{"A := *B 'a' | ''", "B := ARBNO('b') *A", "C := *D"}, "A B"},
	} {
		wantLeft(t, rules(c.l...), names(c.want))
	}
}

// What stands ahead in a PatCat may match nothing, or may not.
func TestH3Behind(t *testing.T) {
	may := []string{"''", "LEN(0)", "BREAK('a')", "BREAKX('a')", "TAB(0)", "TAB(3)", "RTAB(0)", "RTAB(3)", "POS(0)", "POS(3)", "RPOS(0)", "RPOS(3)", "REM", "ARB", "FENCE", "@X", "ARBNO('a')", "ARBNO(FAIL)", "'a' | ''", "'' | 'a'", "'' ''", "'' . X", "ARB $ X", "(('' | 'a') LEN(0)) . X", "ARBNO('a') ARBNO('b')", "*N", "*N *M", "*N | 'a'", "'a' | *M", "ARBNO(*NOBODY)", "ARBNO(*T)"}
	not := []string{"'a'", "'ab'", "LEN(1)", "LEN(65536)", "ANY('a')", "NOTANY('a')", "SPAN('a')", "BAL", "FAIL", "ABORT", "'a' | 'b'", "'' 'a'", "'a' ''", "'a' . X", "BAL $ X", "FAIL | ABORT", "*NOBODY", "*NOBODY | 'a'", "'' *NOBODY", "*NOBODY ''", "*T", "*N *T", "*S", "*S | *T", "*S ''", "*NOBODY . X"}
	others := []string{"M := *N", "N := ARBNO(*T) | FAIL", "S := *S", "T := 'a' | *S *N"}
	for _, s := range may {
		wantLeft(t, rules(append(others, "A := ("+s+") *A")...), names("A S"))
		wantLeft(t, rules(append(others, "A := 'b' | ARBNO(('' ("+s+") *A) . X)")...), names("A S"))
		wantLeft(t, rules(append(others, "A := *B", "B := ("+s+") ("+s+") *A")...), names("A B S"))
		wantLeft(t, rules(append(others, "A := *Q *A", "Q := "+s)...), names("A S"))
	}
	for _, s := range not {
		wantLeft(t, rules(append(others, "A := ("+s+") *A")...), names("S"))
		wantLeft(t, rules(append(others, "A := 'b' | ARBNO(('' ("+s+") *A) . X)")...), names("S"))
		wantLeft(t, rules(append(others, "A := *B", "B := '' ("+s+") *A")...), names("S"))
		wantLeft(t, rules(append(others, "A := *Q *A", "Q := "+s)...), names("S"))
		wantLeft(t, rules(append(others, "A := *A ("+s+")")...), names("A S"))
	}
}

// Each kind with kids may begin with what a kid may.
func TestH3Within(t *testing.T) {
	for _, s := range []string{"*A", "*A 'a'", "'a' | *A", "*A | 'a'", "'a' | 'b' | *A | 'c'", "ARBNO(*A)", "ARBNO('' *A)", "*A . X", "*A $ X", "ARBNO('a' | (*A . X 'b') $ Y)", "'' (ARB | 'a') *A", "ARBNO(*A) 'a'", "'' *A FAIL", "FENCE *A ABORT"} {
		wantLeft(t, rules("A := "+s), names("A"))
	}
	for _, s := range []string{"'a' *A", "'a' | 'b' *A", "ARBNO('a' *A)", "('a' *A) . X", "('a' *A) $ X", "'' 'a' *A", "ABORT *A", "FAIL *A", "@A", "'' . A", "ARB $ A", "*B *A", "*A1", "*AA"} {
		wantLeft(t, rules("A := "+s), nil)
	}
	deep := []api.Rule{rule("A", within(call("A"), 0))}
	wantLeft(t, deep, names("A"))
	for i := 1; i < 100; i++ {
		wantLeft(t, []api.Rule{rule("A", within(call("A"), i))}, nil) // PatCat is the innermost one
		p := arbno(cond(alt(cat(lit(""), call("A")), lit("a")), "X"))
		for range i {
			p = imm(p, "Y")
		}
		wantLeft(t, []api.Rule{rule("A", p)}, names("A"))
	}
}

// What may match nothing by itself alone does not.
func TestH3LeastNothing(t *testing.T) {
	wantLeft(t, rules("A := *S *A", "S := *S"), names("S"))
	wantLeft(t, rules("A := *S *A", "S := *S | ''"), names("A S"))
	wantLeft(t, rules("A := *S *A", "S := *T", "T := *S"), names("S T"))
	wantLeft(t, rules("A := *S *A", "S := *T", "T := *S | ARB"), names("A S T"))
	wantLeft(t, rules("A := *S *A", "S := *T *T", "T := *S *T | *U", "U := *V", "V := ''"), names("A S T"))
	wantLeft(t, rules("V := ''", "U := *V", "T := *S *T | *U", "S := *T *T", "A := *S *A"), names("A S T"))
	wantLeft(t, rules("A := 'a' *B", "B := *C *A", "C := *D", "D := ''", "E := *C *B *E"), nil)
}

func TestH3Wrong(t *testing.T) {
	for _, r := range wrongRules() {
		wantNoLeft(t, r.what, r.e, r.err)
	}
	wrong := wrongPatterns()
	for _, a := range wrong {
		for _, b := range wrong {
			wantNoLeft(t, a.what+", then "+b.what, []api.Rule{rule("A", a.e), rule("B", b.e)}, a.err)
		}
		wantNoLeft(t, a.what+", behind one that comes to itself", []api.Rule{rule("A", call("A")), rule("B", a.e)}, a.err)
	}
}

// As many rules as can be, in a ring, and the last of them hanging on the first one.
func TestH3Greatest(t *testing.T) {
	l := many(api.MaxRules)
	var all []string
	for i := range l {
		l[i].Pat = cat(bare(api.PatArb), call(fmt.Sprintf("R%d", (i+1)%api.MaxRules)), lit("a"))
		all = append(all, l[i].Name)
	}
	slices.Sort(all)
	wantLeft(t, l, all)
	l[40].Pat = cat(lit("a"), call("R41"))
	wantLeft(t, l, nil)

	for i := range l {
		l[i].Pat = call(fmt.Sprintf("R%d", i+1))
	}
	l[63].Pat = lit("")
	l[5].Pat = cat(call("R6"), call("R5"))
	wantLeft(t, l, names("R5"))
	l[63].Pat = lit("a")
	wantLeft(t, l, nil)
	slices.Reverse(l)
	wantLeft(t, l, nil)
	l[0].Pat = lit("")
	wantLeft(t, l, names("R5"))

	wide := cat()
	for range api.MaxNodes - 2 {
		wide.Kids = append(wide.Kids, bare(api.PatRem))
	}
	wide.Kids = append(wide.Kids, call("R0"))
	for i := range l {
		l[i].Pat = wide
	}
	wantLeft(t, l, names("R0"))
}
