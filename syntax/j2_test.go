package syntax_test

import (
	"testing"

	"scanfail/api"
)

// between are the signs between two, their kinds, and how tight they hold together.
var between = []struct {
	sign  string
	kind  int
	level int
}{
	{"&", api.ExCat, 1},
	{"+", api.ExAdd, 2},
	{"-", api.ExSub, 2},
	{"*", api.ExMul, 3},
	{"/", api.ExDiv, 3},
	{"%", api.ExRem, 3},
}

// treeOf is what signs between leaves make: the last one of the loosest is on top.
func treeOf(signs []int, leaves []api.Expr) api.Expr {
	if len(signs) == 0 {
		return leaves[0]
	}
	top := 0
	for i, which := range signs {
		if between[which].level <= between[signs[top]].level {
			top = i
		}
	}
	return two(between[signs[top]].kind, treeOf(signs[:top], leaves[:top+1]), treeOf(signs[top+1:], leaves[top+1:]))
}

// eachRow calls do with all rows of so many signs between two.
func eachRow(n int, do func(row []int)) {
	row := make([]int, n)
	for {
		do(row)
		i := 0
		for i < n && row[i] == len(between)-1 {
			row[i] = 0
			i++
		}
		if i == n {
			return
		}
		row[i]++
	}
}

// Each sign against each other one, from the left.
func TestJ2SignsAgainstEachOther(t *testing.T) {
	for n := 1; n <= 4; n++ {
		eachRow(n, func(row []int) {
			leaves := []api.Expr{name("A")}
			wide, tight := "A", "A"
			for i, which := range row {
				leaf := letters(n + 1)[i+1]
				leaves = append(leaves, name(leaf))
				wide += " " + between[which].sign + " " + leaf
				tight += between[which].sign + leaf
			}
			want := treeOf(row, leaves)
			wantValue(t, wide, want)
			wantValue(t, tight, want)
		})
	}
}

// So for once by hand.
func TestJ2SignsByHand(t *testing.T) {
	a, b, c, d := name("A"), name("B"), name("C"), name("D")
	wantValue(t, "A & B + C * D", two(api.ExCat, a, two(api.ExAdd, b, two(api.ExMul, c, d))))
	wantValue(t, "A * B + C & D", two(api.ExCat, two(api.ExAdd, two(api.ExMul, a, b), c), d))
	wantValue(t, "A - B - C", two(api.ExSub, two(api.ExSub, a, b), c))
	wantValue(t, "A - B + C", two(api.ExAdd, two(api.ExSub, a, b), c))
	wantValue(t, "A / B * C", two(api.ExMul, two(api.ExDiv, a, b), c))
	wantValue(t, "A % B / C", two(api.ExDiv, two(api.ExRem, a, b), c))
	wantValue(t, "A & B & C", two(api.ExCat, two(api.ExCat, a, b), c))
	wantValue(t, "A + B * C - D", two(api.ExSub, two(api.ExAdd, a, two(api.ExMul, b, c)), d))
}

// In brackets, which make nothing of their own.
func TestJ2SignsInBrackets(t *testing.T) {
	a, b, c, d := name("A"), name("B"), name("C"), name("D")
	for _, x := range between {
		for _, y := range between {
			left := two(y.kind, two(x.kind, a, b), c)
			right := two(x.kind, a, two(y.kind, b, c))
			wantValue(t, "(A "+x.sign+" B) "+y.sign+" C", left)
			wantValue(t, "A "+x.sign+" (B "+y.sign+" C)", right)
			wantValue(t, "((A"+x.sign+"(B))"+y.sign+"((C)))", left)
			wantValue(t, "(((A)"+x.sign+"((B"+y.sign+"C))))", right)
			for _, z := range between {
				wantValue(t, "(A "+x.sign+" B) "+y.sign+" (C "+z.sign+" D)", two(y.kind, two(x.kind, a, b), two(z.kind, c, d)))
				wantValue(t, "A "+x.sign+" (B "+y.sign+" (C "+z.sign+" D))", two(x.kind, a, two(y.kind, b, two(z.kind, c, d))))
				wantValue(t, "((A "+x.sign+" B) "+y.sign+" C) "+z.sign+" D", two(z.kind, two(y.kind, two(x.kind, a, b), c), d))
				wantValue(t, "(A "+x.sign+" (B "+y.sign+" C)) "+z.sign+" D", two(z.kind, two(x.kind, a, two(y.kind, b, c)), d))
			}
		}
	}
	wantValue(t, "(A)", a)
	wantValue(t, "((((A))))", a)
	wantValue(t, "(1)", number(1))
	wantValue(t, "('a')", text("a"))
	wantValue(t, "(F())", call("F"))
	wantLine(t, " (X) = 1", assign(name("X"), number(1)))
	wantLine(t, " ((T<1>)) ? ['a'] = (1)", replace(item("T", number(1)), lit("a"), number(1)))
	wantLine(t, " ($(X)) = 1", assign(indirect(name("X")), number(1)))
	wantLine(t, " ('a') ? ['a']", match(text("a"), lit("a")))
}

// leaves are pieces of each kind, as they are written.
var leaves = []struct {
	s string
	x api.Expr
}{
	{"0", number(0)},
	{"7", number(7)},
	{"10", number(10)},
	{"9223372036854775807", number(9223372036854775807)},
	{"''", text("")},
	{"'a'", text("a")},
	{"'it''s'", text("it's")},
	{"'+'", text("+")},
	{"'DEFINE'", text("DEFINE")},
	{"'X = ( [ '", text("X = ( [ ")},
	{"'\x00\xff\t\n'", text("\x00\xff\t\n")},
	{"X", name("X")},
	{"A1", name("A1")},
	{"S", name("S")},
	{"DEFINE", name("DEFINE")},
	{longest, name(longest)},
	{"T<1>", item("T", number(1))},
	{"T<'a' & X>", item("T", two(api.ExCat, text("a"), name("X")))},
	{"T < U < V > >", item("T", item("U", name("V")))},
	{"T<-1>", item("T", neg(number(1)))},
	{"T<(1)>", item("T", number(1))},
	{"F()", call("F")},
	{"F ( )", call("F")},
	{"F(1)", call("F", number(1))},
	{"F((1))", call("F", number(1))},
	{"F(1, 'a', X)", call("F", number(1), text("a"), name("X"))},
	{"F(A + 1,-B,G())", call("F", two(api.ExAdd, name("A"), number(1)), neg(name("B")), call("G"))},
	{"F(F(F()))", call("F", call("F", call("F")))},
	{"$X", indirect(name("X"))},
	{"$'X'", indirect(text("X"))},
	{"$1", indirect(number(1))},
	{"$$X", indirect(indirect(name("X")))},
	{"$T<1>", indirect(item("T", number(1)))},
	{"$F(1)", indirect(call("F", number(1)))},
	{"$(A & 'b')", indirect(two(api.ExCat, name("A"), text("b")))},
	{"$(-X)", indirect(neg(name("X")))},
	{"(X)", name("X")},
	{"(A & B)", two(api.ExCat, name("A"), name("B"))},
	{"(-X)", neg(name("X"))},
}

// Each kind of piece at each place.
func TestJ2EachPieceAtEachPlace(t *testing.T) {
	a, b := name("A"), name("B")
	for _, p := range leaves {
		wantValue(t, p.s, p.x)
		wantValue(t, "("+p.s+")", p.x)
		wantValue(t, "-"+p.s, neg(p.x))
		wantValue(t, "- - "+p.s, neg(neg(p.x)))
		wantValue(t, "$"+p.s, indirect(p.x))
		wantValue(t, "-$ "+p.s, neg(indirect(p.x)))
		wantValue(t, "T<"+p.s+">", item("T", p.x))
		wantValue(t, "F("+p.s+")", call("F", p.x))
		wantValue(t, "F("+p.s+","+p.s+")", call("F", p.x, p.x))
		wantValue(t, "F(A,B, "+p.s+" )", call("F", a, b, p.x))
		for _, x := range between {
			wantValue(t, p.s+" "+x.sign+" A", two(x.kind, p.x, a))
			wantValue(t, "A"+x.sign+p.s, two(x.kind, a, p.x))
			wantValue(t, p.s+x.sign+p.s, two(x.kind, p.x, p.x))
			for _, y := range between {
				wantValue(t, "A"+x.sign+p.s+y.sign+"B", treeOf([]int{rank(x.kind), rank(y.kind)}, []api.Expr{a, p.x, b}))
			}
		}
		wantLine(t, " X ? ['a'] = "+p.s, replace(name("X"), lit("a"), p.x))
		wantLine(t, " "+p.s+" ? ['a']", match(p.x, lit("a")))
		wantLine(t, "L "+p.s+":(M)", api.Statement{Label: "L", Kind: api.StEval, Value: p.x, Always: "M"})
	}
}

// rank is which one of between is of a kind.
func rank(kind int) int {
	for i, x := range between {
		if x.kind == kind {
			return i
		}
	}
	return -1
}

// `-` ahead of pieces, twice, and between: it takes the one piece alone.
func TestJ2Less(t *testing.T) {
	a, b, c := name("A"), name("B"), name("C")
	wantValue(t, "-A", neg(a))
	wantValue(t, "--A", neg(neg(a)))
	wantValue(t, "- - -A", neg(neg(neg(a))))
	wantValue(t, "-1", neg(number(1)))
	wantValue(t, "-0", neg(number(0)))
	wantValue(t, "-9223372036854775807", neg(number(9223372036854775807)))
	wantValue(t, "-'a'", neg(text("a")))
	wantValue(t, "-(A + B)", neg(two(api.ExAdd, a, b)))
	wantValue(t, "-(-A)", neg(neg(a)))
	wantValue(t, "-T<-A>", neg(item("T", neg(a))))
	wantValue(t, "-F(-A, --B)", neg(call("F", neg(a), neg(neg(b)))))
	wantValue(t, "-$A", neg(indirect(a)))
	wantValue(t, "A-B", two(api.ExSub, a, b))
	wantValue(t, "A--B", two(api.ExSub, a, neg(b)))
	wantValue(t, "A - - - B", two(api.ExSub, a, neg(neg(b))))
	wantValue(t, "-A--B", two(api.ExSub, neg(a), neg(b)))
	wantValue(t, "-A-B-C", two(api.ExSub, two(api.ExSub, neg(a), b), c))
	for _, x := range between {
		wantValue(t, "-A "+x.sign+" B", two(x.kind, neg(a), b))
		wantValue(t, "A "+x.sign+" -B", two(x.kind, a, neg(b)))
		wantValue(t, "--A "+x.sign+" --B", two(x.kind, neg(neg(a)), neg(neg(b))))
		wantValue(t, "-(A "+x.sign+" B)", neg(two(x.kind, a, b)))
		for _, y := range between {
			for less := range 8 {
				row := []api.Expr{a, b, c}
				line := ""
				for i, leaf := range []string{"A", "B", "C"} {
					line += []string{"", " " + x.sign + " ", " " + y.sign + " "}[i]
					if less>>i&1 == 1 {
						row[i], line = neg(row[i]), line+"-"
					}
					line += leaf
				}
				wantValue(t, line, treeOf([]int{rank(x.kind), rank(y.kind)}, row))
			}
		}
	}
	wantForm(t, " -", 2)
	wantForm(t, " X = -", 6)
	wantForm(t, " X = - :(M)", 7)
	wantForm(t, " X = A -", 8)
	wantForm(t, " X = -*A", 6)
	wantForm(t, " X = -)", 6)
	wantForm(t, " X = +A", 5) // there is no other sign ahead
	wantForm(t, " X = A + +B", 9)
	wantForm(t, " X = &A", 5)
	wantForm(t, " X = A * /B", 9)
}

// `$` and a piece: `-` is ahead of a piece, and makes none.
func TestJ2Indirect(t *testing.T) {
	a, b := name("A"), name("B")
	wantValue(t, "$A", indirect(a))
	wantValue(t, "$ $ A", indirect(indirect(a)))
	wantValue(t, "$A<B>", indirect(item("A", b)))
	wantValue(t, "$A(B)", indirect(call("A", b)))
	wantValue(t, "$(A)", indirect(a))
	wantValue(t, "$($(A))", indirect(indirect(a)))
	for _, x := range between {
		wantValue(t, "$A "+x.sign+" B", two(x.kind, indirect(a), b))
		wantValue(t, "A "+x.sign+" $B", two(x.kind, a, indirect(b)))
		wantValue(t, "$(A "+x.sign+" B)", indirect(two(x.kind, a, b)))
	}
	wantForm(t, " $", 2)
	wantForm(t, " $ = 1", 3)
	wantForm(t, " $)", 2)
	wantForm(t, " $-A", 2)
	wantForm(t, " $$-A", 3)
	wantForm(t, " $+A", 2)
	wantForm(t, " X = $ :(M)", 7)
	wantForm(t, " A$B", 2)
	wantForm(t, " A<1>$B", 5)
}

func TestJ2Items(t *testing.T) {
	a := name("A")
	wantValue(t, "T<A>", item("T", a))
	wantValue(t, "T<A & A>", item("T", two(api.ExCat, a, a)))
	wantValue(t, "T<T<T<A>>>", item("T", item("T", item("T", a))))
	wantValue(t, "T<A> & T<A>", two(api.ExCat, item("T", a), item("T", a)))
	for _, c := range []struct {
		line string
		at   int
	}{
		{" T<", 3},
		{" T<>", 3},
		{" T<A", 4},
		{" T<A)", 4},
		{" T<A,B>", 4},
		{" T<A B>", 5},
		{" T<A>>", 5},
		{" T<A><B>", 5},
		{" T<A>(B)", 5},
		{" T<A = 1>", 5},
		{" T<['a']>", 3},
		{" T<A:(M)", 4},
		{" T<(A>)", 5},
		{" (T<A)>", 5},
		{" 'T'<A>", 4},
		{" 1<A>", 2},
		{" (T)<A>", 4},
		{" $T<A><B>", 6},
		{" <A>", 1},
	} {
		wantForm(t, c.line, c.at)
	}
}

func TestJ2Calls(t *testing.T) {
	a := name("A")
	for n := range api.MaxArgs + 1 {
		var kids []api.Expr
		for i := range n {
			kids = append(kids, number(int64(i)))
		}
		wantValue(t, "F("+list([]string{"0", "1", "2", "3", "4", "5", "6", "7"}[:n])+")", call("F", kids...))
	}
	wantValue(t, "F(A)(A)"[:4], call("F", a))
	wantValue(t, "F(F(), F(F()), -F())", call("F", call("F"), call("F", call("F")), neg(call("F"))))
	wantValue(t, "F(A & A, A * A)", call("F", two(api.ExCat, a, a), two(api.ExMul, a, a)))
	for _, c := range []struct {
		line string
		at   int
	}{
		{" F(", 3},
		{" F(A", 4},
		{" F(A,", 5},
		{" F(,", 3},
		{" F(,)", 3},
		{" F(,A)", 3},
		{" F(A,)", 5},
		{" F(A,,A)", 5},
		{" F(A A)", 5},
		{" F(A;", -1},
		{" F(A>", 4},
		{" F(A = 1)", 5},
		{" F(A ? ['a'])", 5},
		{" F(['a'])", 3},
		{" F())", 4},
		{" F()()", 4},
		{" F()<A>", 4},
		{" F(A:(M)", 4},
		{" F((A,A))", 5},
		{" F(T<A,A>)", 6},
		{" 'F'()", 4},
		{" 1()", 2},
		{" (F)()", 4},
		{" (A, A)", 3},
		{" ()", 2},
		{" X = ()", 6},
		{" X = (", 6},
		{" X = (A", 7},
		{" X = (A))", 8},
		{" X = (A>", 7},
		{" X = (A B)", 8},
		{" X = (A = B)", 8},
		{" X = (['a'])", 6},
	} {
		if c.at < 0 { // it begins no token
			c.at = len(c.line) - 1
		}
		wantForm(t, c.line, c.at)
	}
}

// What an expression's kinds do not name is empty: all fields are held against those of what is made by hand.
func TestJ2NothingElse(t *testing.T) {
	wantValue(t, "'a' & 1 & X & T<'b'> & F('c') & $'d' & -2",
		two(api.ExCat, two(api.ExCat, two(api.ExCat, two(api.ExCat, two(api.ExCat, two(api.ExCat,
			api.Expr{Kind: 1, Text: "a"},
			api.Expr{Kind: 2, N: 1}),
			api.Expr{Kind: 3, Name: "X"}),
			api.Expr{Kind: 4, Name: "T", Kids: []api.Expr{{Kind: 1, Text: "b"}}}),
			api.Expr{Kind: 6, Name: "F", Kids: []api.Expr{{Kind: 1, Text: "c"}}}),
			api.Expr{Kind: 5, Kids: []api.Expr{{Kind: 1, Text: "d"}}}),
			api.Expr{Kind: 7, Kids: []api.Expr{{Kind: 2, N: 2}}}))
}
