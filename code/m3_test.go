package code_test

import (
	"fmt"
	"math"
	"slices"
	"strings"
	"testing"

	"scanfail/api"
	"scanfail/check"
	"scanfail/code"
)

func TestM3Texts(t *testing.T) {
	long := strings.Repeat("x", api.MaxText)
	for _, s := range []string{"", "a", "0", "01", " ", "it's", "\n\x00\xff", long} {
		wantValue(t, api.Expr{Kind: api.ExText, Text: s}, text(s))
	}
}

func TestM3Numbers(t *testing.T) {
	for _, n := range []int64{0, 1, 9, 10, 99, 100, 1 << 31, 1 << 62, math.MaxInt64} {
		wantValue(t, api.Expr{Kind: api.ExNumber, N: n}, text(fmt.Sprint(n)))
	}
	for _, n := range []int64{-1, -10, math.MinInt64} {
		wantFault(t, []api.Statement{{Kind: api.StEmpty}, {Kind: api.StEval, Value: api.Expr{Kind: api.ExNumber, N: n}}}, api.ErrRange, 1)
	}
}

func TestM3Names(t *testing.T) {
	for _, s := range []string{"X", "INPUT", "OUTPUT", "L", "END", "SIZE", "ABCDEFGHIJKLMNOP", "A1"} {
		wantWords(t, s, read(s))
		wantWords(t, s+"<1>", text("1"), item(s))
	}
}

func TestM3ItemsAndIndirect(t *testing.T) {
	wantWords(t, "T<'k'>", text("k"), item("T"))
	wantWords(t, "T<X & 1>", read("X"), text("1"), two(api.ExCat), item("T"))
	wantWords(t, "T<U<V<X>>>", read("X"), item("V"), item("U"), item("T"))
	wantWords(t, "$X", read("X"), name())
	wantWords(t, "$'X'", text("X"), name())
	wantWords(t, "$$X", read("X"), name(), name())
	wantWords(t, "$T<$X>", read("X"), name(), item("T"), name())
	wantWords(t, "$(A & B)", read("A"), read("B"), two(api.ExCat), name())
}

// Each operator has its own number; the first kid is first.
func TestM3Two(t *testing.T) {
	for kind, sign := range map[int]string{api.ExCat: "&", api.ExAdd: "+", api.ExSub: "-", api.ExMul: "*", api.ExDiv: "/", api.ExRem: "%"} {
		wantWords(t, "A "+sign+" B", read("A"), read("B"), two(kind))
		wantWords(t, "1 "+sign+" 1", text("1"), text("1"), two(kind))
		wantWords(t, "A "+sign+" (B "+sign+" C)", read("A"), read("B"), read("C"), two(kind), two(kind))
		wantWords(t, "(A "+sign+" B) "+sign+" C", read("A"), read("B"), two(kind), read("C"), two(kind))
	}
	wantWords(t, "A + B * C", read("A"), read("B"), read("C"), two(api.ExMul), two(api.ExAdd))
	wantWords(t, "A * B + C & D", read("A"), read("B"), two(api.ExMul), read("C"), two(api.ExAdd), read("D"), two(api.ExCat))
}

// Nought stands ahead of all that the kid is made of.
func TestM3Neg(t *testing.T) {
	wantWords(t, "-X", text("0"), read("X"), two(api.ExSub))
	wantWords(t, "-5", text("0"), text("5"), two(api.ExSub))
	wantWords(t, "-(A + B)", text("0"), read("A"), read("B"), two(api.ExAdd), two(api.ExSub))
	wantWords(t, "--X", text("0"), text("0"), read("X"), two(api.ExSub), two(api.ExSub))
	wantWords(t, "-A - -B", text("0"), read("A"), two(api.ExSub), text("0"), read("B"), two(api.ExSub), two(api.ExSub))
	wantWords(t, "A * -B", read("A"), text("0"), read("B"), two(api.ExSub), two(api.ExMul))
	wantWords(t, "-T<-1>", text("0"), text("0"), text("1"), two(api.ExSub), item("T"), two(api.ExSub))
	wantWords(t, "-SIZE(X)", text("0"), read("X"), makes("SIZE", 1), two(api.ExSub))
	wantWords(t, "0 - X", text("0"), read("X"), two(api.ExSub))
	wantValue(t, api.Expr{Kind: api.ExNeg, Kids: []api.Expr{{Kind: api.ExNumber, N: math.MaxInt64}}}, text("0"), text("9223372036854775807"), two(api.ExSub))
}

// Functions of the language, each with as many kids as it takes.
func TestM3FunctionsOfTheLanguage(t *testing.T) {
	all := []string{"SIZE", "TRIM", "REVERSE", "ROOT", "INTEGER", "DUPL", "ROTATE", "COUNT", "EQ", "NE", "LT", "LE", "GT", "GE", "IDENT", "DIFFER", "LGT", "REMDR", "POWER", "GCD", "BASE", "UNBASE", "REPLACE", "SUBSTR", "LPAD", "RPAD"}
	for _, s := range all {
		n := check.Builtin(s)
		kids, want := "A, B, C"[:3*n-2], []api.Instr{read("A"), read("B"), read("C")}[:n]
		wantWords(t, s+"("+kids+")", append(slices.Clone(want), makes(s, n))...)
	}
	wantWords(t, "SIZE(TRIM(X & Y))", read("X"), read("Y"), two(api.ExCat), makes("TRIM", 1), makes("SIZE", 1))
	wantWords(t, "SUBSTR(X, SIZE(Y), -Z)", read("X"), read("Y"), makes("SIZE", 1), text("0"), read("Z"), two(api.ExSub), makes("SUBSTR", 3))
}

// Functions of the program: with no kid, one, fewer than Params, and as many.
func TestM3FunctionsOfTheProgram(t *testing.T) {
	wantWords(t, "F()", call("F", 0))
	wantWords(t, "G()", call("G", 0))
	wantWords(t, "G(X)", read("X"), call("G", 1))
	wantWords(t, "G(X, 'y')", read("X"), text("y"), call("G", 2))
	wantWords(t, "H(1, 2, 3, 4, 5, 6, 7, 8)", text("1"), text("2"), text("3"), text("4"), text("5"), text("6"), text("7"), text("8"), call("H", 8))
	wantWords(t, "H(1, 2, 3)", text("1"), text("2"), text("3"), call("H", 3))
	wantWords(t, "G(F(), G(H(X), -Y)) & F()", call("F", 0), read("X"), call("H", 1), text("0"), read("Y"), two(api.ExSub), call("G", 2), call("G", 2), call("F", 0), two(api.ExCat))
	wantWords(t, "G(SIZE(X), F)", read("X"), makes("SIZE", 1), read("F"), call("G", 2))
}

// A name that is nearly a function of the language is the program's own.
func TestM3NearlyOfTheLanguage(t *testing.T) {
	wantCode(t, []string{" SIZES(1)", "L DEFINE SIZES(A) L", " DEFINE S(SIZE) L", " S(SIZE)"}, []int{0, 5, 7, 9},
		step(0, 4), text("1"), call("SIZES", 1), drop(), jump(5), step(1, 6), jump(7), step(2, 8), jump(9), step(3, 13), read("SIZE"), call("S", 1), drop(), jump(14), end())
}

func TestM3Places(t *testing.T) {
	wantPlace(t, "X", variable("X"))
	wantPlace(t, "OUTPUT", variable("OUTPUT"))
	wantPlace(t, "INPUT", variable("INPUT"))
	wantPlace(t, "T<1>", text("1"), entry("T"))
	wantPlace(t, "T<T<'a'>>", text("a"), item("T"), entry("T"))
	wantPlace(t, "T<A & -B>", read("A"), text("0"), read("B"), two(api.ExSub), two(api.ExCat), entry("T"))
	wantPlace(t, "T<SIZE($X)>", read("X"), name(), makes("SIZE", 1), entry("T"))
	wantPlace(t, "$X", read("X"), where())
	wantPlace(t, "$'X'", text("X"), where())
	wantPlace(t, "$$X", read("X"), name(), where())
	wantPlace(t, "$T<1>", text("1"), item("T"), where())
	wantPlace(t, "$(A & 1)", read("A"), text("1"), two(api.ExCat), where())
	wantPlace(t, "$(-X)", text("0"), read("X"), two(api.ExSub), where())
}

// The deepest and the greatest expression: each way down, nothing is left out.
func TestM3Greatest(t *testing.T) {
	x := api.Expr{Kind: api.ExName, Name: "X"}
	for range api.MaxDepth - 1 {
		x = api.Expr{Kind: api.ExNeg, Kids: []api.Expr{x}}
	}
	want := slices.Concat(slices.Repeat([]api.Instr{text("0")}, api.MaxDepth-1), []api.Instr{read("X")}, slices.Repeat([]api.Instr{two(api.ExSub)}, api.MaxDepth-1))
	wantValue(t, x, want...)
	wantFault(t, []api.Statement{{Kind: api.StEval, Value: api.Expr{Kind: api.ExNeg, Kids: []api.Expr{x}}}}, api.ErrMuch, 0)
	wide := wideExpr(api.MaxNodes - 1)
	out, starts, fault := code.Make([]api.Statement{{Kind: api.StAssign, Target: api.Expr{Kind: api.ExName, Name: "X"}, Value: wide}})
	if fault != (api.Fault{}) || len(starts) != 1 || len(out) != api.MaxNodes-1+5 {
		t.Errorf("%d instructions, %v, fault %v", len(out), starts, fault)
	}
	for at, i := range out[2 : len(out)-3] {
		if i.Op != api.OpText && i != two(api.ExCat) {
			t.Fatalf("at %d: %v", at, i)
		}
	}
}

// wideExpr is an expression of so many nodes (an odd number), not deep, of texts put together.
func wideExpr(nodes int) api.Expr {
	if nodes <= 1 {
		return api.Expr{Kind: api.ExText, Text: "a"}
	}
	half := (nodes - 1) / 4 * 2
	return api.Expr{Kind: api.ExCat, Kids: []api.Expr{wideExpr(half + 1), wideExpr(nodes - 2 - half)}}
}
