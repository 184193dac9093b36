package pats_test

import (
	"strconv"
	"strings"
	"testing"

	"scanfail/api"
	"scanfail/pats"
)

// nest is a text in n pairs of brackets, the first of each pair with what stands ahead of it.
func nest(open, text string, n int) string {
	return strings.Repeat(open, n) + text + strings.Repeat(")", n)
}

func TestD4ReadEachKind(t *testing.T) {
	for kind := 1; kind <= 24; kind++ {
		wantRead(t, written[kind], good(kind))
	}
}

func TestD4Read(t *testing.T) {
	a, b, c := lit("a"), lit("b"), lit("c")
	for _, x := range []struct {
		text string
		want api.Pat
	}{
		{"''", lit("")},
		{"''''", lit("'")},
		{"''''''", lit("''")},
		{"'it''s'", lit("it's")},
		{"'''a'''", lit("'a'")},
		{"'a''b'", lit("a'b")},
		{"'a' 'b'", cat(a, b)},
		{"'a'  'b'", cat(a, b)},
		{"'' ''", cat(lit(""), lit(""))},
		{"' a '", lit(" a ")}, // blanks within quotes are its own
		{"'(|)LEN(3) . X'", lit("(|)LEN(3) . X")},
		{"'\x00\n\t\xff'", lit("\x00\n\t\xff")},
		{"'a'|'b'", alt(a, b)},
		{"'a' | 'b' | 'c'", alt(a, b, c)},
		{"'a' 'b' 'c'", cat(a, b, c)},
		{"'a' 'b' | 'c'", alt(cat(a, b), c)},
		{"'a' | 'b' 'c'", alt(a, cat(b, c))},
		{"'a' | LEN(2) . X", alt(a, cond(number(api.PatLen, 2), "X"))},
		{"'a' 'b' . X", cat(a, cond(b, "X"))}, // given is the last piece alone
		{"('a' 'b') . X", cond(cat(a, b), "X")},
		{"'a' . X 'b'", cat(cond(a, "X"), b)},
		{"'a' . X . Y", cond(cond(a, "X"), "Y")},
		{"'a' $ X . Y $ Z", imm(cond(imm(a, "X"), "Y"), "Z")},
		{"'a' . X | 'b' $ Y", alt(cond(a, "X"), imm(b, "Y"))},
		{"('a' | 'b') . X", cond(alt(a, b), "X")},
		{"ARBNO('a' | 'b') $ X", imm(arbno(alt(a, b)), "X")},
		{"@X . Y", cond(cursor("X"), "Y")},
		{"*X $ Y", imm(call("X"), "Y")},
		{"@X*P@Y", cat(cursor("X"), call("P"), cursor("Y"))},
		{"('a')", a}, // brackets make nothing
		{"((('a')))", a},
		{"('a' 'b') 'c'", cat(cat(a, b), c)}, // what stands in them stays together
		{"('a' | 'b') | 'c'", alt(alt(a, b), c)},
		{"'a' | ('b' | 'c')", alt(a, alt(b, c))},
		{"('a' 'b')", cat(a, b)},
		{"('a' | 'b')", alt(a, b)},
		{"('a') ('b')", cat(a, b)},
		{"('a')('b')", cat(a, b)},
		{"('a') | (('b'))", alt(a, b)},
		{"('a' . X) . Y", cond(cond(a, "X"), "Y")},
		{"(('a') . X)", cond(a, "X")},
		{"ARBNO(('a'))", arbno(a)},
		{"ARBNO('a' 'b' | 'c')", arbno(alt(cat(a, b), c))},
		{"ARBNO(ARBNO(ARB))", arbno(arbno(bare(api.PatArb)))},
		{"ARB('a')", cat(bare(api.PatArb), a)}, // ARB has no brackets of its own
		{"REM(ARB)", cat(bare(api.PatRem), bare(api.PatArb))},
		{"'a' . LEN('b')", cat(cond(a, "LEN"), b)}, // a kind's word is a name where one must come
		{"*ARB", call("ARB")},
		{"@ARBNO", cursor("ARBNO")},
		{"'a'$REM REM", cat(imm(a, "REM"), bare(api.PatRem))},
		{"*A", call("A")},
		{"*ABCDEFGHIJKLMNOP", call("ABCDEFGHIJKLMNOP")},
		{"@Z0123456789ABCDE", cursor("Z0123456789ABCDE")},
		{"'a'.ABCDEFGHIJKLMNOP$P123456789012345", imm(cond(a, "ABCDEFGHIJKLMNOP"), "P123456789012345")},
		{"ANY('''')", text(api.PatAny, "'")},
		{"BREAKX('a''b')BREAK(' ')", cat(text(api.PatBreakX, "a'b"), text(api.PatBreak, " "))},
		{"LEN(0)", number(api.PatLen, 0)},
		{"LEN(1)", number(api.PatLen, 1)},
		{"TAB(65535)", number(api.PatTab, 65535)},
		{"RPOS(65536)", number(api.PatRPos, 65536)},
		{"POS(10)RTAB(100)", cat(number(api.PatPos, 10), number(api.PatRTab, 100))},
	} {
		wantRead(t, x.text, x.want)
	}
}

// Blanks, none or any number, between any two signs, ahead and behind; within signs there are none.
func TestD4ReadBlanks(t *testing.T) {
	signs := strings.Fields("( 'a' | LEN ( 12 ) . X $ Y9 ) ANY ( 'x' ) @ Z * P ARBNO ( ( ARB ) 'b' | '' )")
	a := cond(number(api.PatLen, 12), "X")
	want := cat(alt(lit("a"), imm(a, "Y9")), text(api.PatAny, "x"), cursor("Z"), call("P"), arbno(alt(cat(bare(api.PatArb), lit("b")), lit(""))))
	for _, between := range []string{" ", "  ", strings.Repeat(" ", 1000)} {
		s := strings.Join(signs, between)
		wantRead(t, s, want)
		wantRead(t, between+s, want)
		wantRead(t, s+between, want)
		wantRead(t, between+s+between, want)
	}
	wantRead(t, strings.ReplaceAll(strings.ReplaceAll(strings.Join(signs, "\x00"), "P\x00A", "P A"), "\x00", ""), want)
	wantRead(t, strings.Repeat(" ", api.MaxText-3)+"ARB", bare(api.PatArb))
	wantRead(t, "ARB"+strings.Repeat(" ", api.MaxText-3), bare(api.PatArb))
	wantFault(t, strings.Repeat(" ", api.MaxText-2)+"ARB", api.ErrMuch, 0)
	wantFault(t, "L EN(3)", api.ErrName, 0)
	wantFault(t, "LEN(1 2)", api.ErrForm, 6)
	wantFault(t, "'a'.X Y", api.ErrName, 6)
	for _, other := range []string{"\t", "\n", "\r", "\v", "\f", "\x00", "\u00a0", "\u2003"} { // these are no blanks
		wantFault(t, other+"'a'", api.ErrForm, 0)
		wantFault(t, "'a'"+other, api.ErrForm, 3)
		wantFault(t, "'a' "+other+"'b'", api.ErrForm, 4)
		wantFault(t, "LEN("+other+"3)", api.ErrForm, 4)
	}
}

func TestD4ReadWrongForm(t *testing.T) {
	for _, c := range []struct {
		text string
		at   int
	}{
		{"", 0},
		{" ", 1}, // it ends too early, at its end
		{"   ", 3},
		{"'", 1},
		{"'a", 2},
		{"'a''", 4},
		{"'''", 3},
		{"'a' '", 5},
		{"'a  ", 4},
		{"|", 0},
		{"| 'a'", 0},
		{"'a' |", 5},
		{"'a' |  ", 7},
		{"'a' || 'b'", 5},
		{"'a' | | 'b'", 6},
		{"'a' | )", 6},
		{"(", 1},
		{"( ", 2},
		{")", 0},
		{"()", 1},
		{"( )", 2},
		{"('a'", 4},
		{"('a' ", 5},
		{"('a' |)", 6},
		{"(|'a')", 1},
		{"'a')", 3},
		{"('a'))", 5},
		{"(('a')", 6},
		{".", 0},
		{". X", 0},
		{"$ X", 0},
		{"'a' .", 5},
		{"'a' . ", 6},
		{"'a' . 'b'", 6},
		{"'a' . 1", 6},
		{"'a' . 1X", 6},
		{"'a' . x", 6},
		{"'a' . . X", 6},
		{"'a' . $ X", 6},
		{"'a' . (X)", 6},
		{"'a' $", 5},
		{"'a' $ |", 6},
		{"('a' .)", 6},
		{"'a' | . X", 6},
		{"@", 1},
		{"@ ", 2},
		{"@1", 1},
		{"@'X'", 1},
		{"@(X)", 1},
		{"@@X", 1},
		{"*", 1},
		{"**X", 1},
		{"*9", 1},
		{"*x", 1},
		{"5", 0},
		{"0", 0},
		{"00", 0}, // no number may be there at all
		{"LEN(1) 5", 7},
		{"'a' 5", 4},
		{"@X 5", 3},
		{"LEN", 3},
		{"LEN ", 4},
		{"LEN 3", 4},
		{"LEN 'a'", 4},
		{"LEN(", 4},
		{"LEN()", 4},
		{"LEN( )", 5},
		{"LEN(3", 5},
		{"LEN(3 ", 6},
		{"LEN((3))", 4},
		{"LEN('3')", 4},
		{"LEN('3", 4}, // no text may begin there: nothing is said of its end
		{"LEN(X)", 4},
		{"LEN(ABCDEFGHIJKLMNOPQ)", 4},
		{"LEN(-1)", 4},
		{"LEN(+1)", 4},
		{"LEN(1,2)", 5},
		{"LEN(1A)", 5},
		{"LEN(1'a')", 5},
		{"LEN(1|2)", 5},
		{"LEN(1.5)", 5},
		{"LEN(00)", 5},
		{"LEN(03)", 5},
		{"LEN( 03 )", 6},
		{"LEN(0", 5},
		{"LEN(00", 5},
		{"LEN(0065537)", 5},
		{"TAB(01)", 5},
		{"RTAB(01)", 6},
		{"POS(01)", 5},
		{"RPOS(01)", 6},
		{"ANY", 3},
		{"ANY 'a'", 4},
		{"ANY(", 4},
		{"ANY()", 4},
		{"ANY(a)", 4},
		{"ANY(A)", 4},
		{"ANY(3)", 4},
		{"ANY('a'", 7},
		{"ANY('a", 6},
		{"ANY('a)", 7},
		{"ANY('", 5},
		{"ANY('''", 7},
		{"ANY('a''b", 9},
		{"ANY('a' 'b')", 8},
		{"ANY(('a'))", 4},
		{"ANY('a' | 'b')", 8},
		{"ARBNO", 5},
		{"ARBNO 'a'", 6},
		{"ARBNO(", 6},
		{"ARBNO()", 6},
		{"ARBNO('a'", 9},
		{"ARBNO('a' |)", 11},
		{"ARBNO)", 5},
		{"REM)", 3},
		{"REM()", 4},
		{"arb", 0},
		{"'a' b", 4},
		{"ARBa", 3},
		{"@Xa", 2},
		{"LENa(3)", 3},
		{"'a' ; 'b'", 4},
		{"'a', 'b'", 3},
		{"\"a\"", 0},
		{"[ARB]", 0},
		{"'a' & 'b'", 4},
		{"'a' + 'b'", 4},
		{"é", 0},
		{"'é' é", 5},
		{strings.Repeat("(", api.MaxDepth), api.MaxDepth},
		{"'" + full[1:], api.MaxText},
	} {
		wantFault(t, c.text, api.ErrForm, c.at)
	}
}

func TestD4ReadWrongName(t *testing.T) {
	for _, c := range []struct {
		text string
		at   int
	}{
		{"X", 0},
		{"XYZ", 0},
		{" X", 1},
		{"A1", 0},
		{"ARBARB", 0},
		{"LENX(3)", 0},
		{"LEN3", 0},
		{"LEN1(3)", 0},
		{"LE(3)", 0},
		{"BREAKXX('a')", 0},
		{"BREA('a')", 0},
		{"END", 0},
		{"LIT('a')", 0},
		{"CAT('a')", 0},
		{"'a' X", 4},
		{"'a'X", 3},
		{"'a' | X", 6},
		{"(X", 1},
		{"(X)", 1},
		{"ARBNO(X)", 6},
		{"'a' . X Y", 8},
		{"*P Q", 3},
		{"ARB ARC", 4},
		{"ABCDEFGHIJKLMNOPQ", 0},
		{"*ABCDEFGHIJKLMNOPQ", 1},
		{"* ABCDEFGHIJKLMNOPQ", 2},
		{"@ABCDEFGHIJKLMNOPQ", 1},
		{"@A0123456789012345", 1},
		{"'a' . ABCDEFGHIJKLMNOPQ", 6},
		{"'a' $ ABCDEFGHIJKLMNOPQ", 6},
		{"'a' . X . ABCDEFGHIJKLMNOPQ", 10},
		{"*" + strings.Repeat("A", api.MaxText-1), 1},
		{strings.Repeat("A", api.MaxText), 0},
	} {
		wantFault(t, c.text, api.ErrName, c.at)
	}
}

func TestD4ReadWrongRangeAndFit(t *testing.T) {
	for _, word := range []string{"LEN", "TAB", "RTAB", "POS", "RPOS"} {
		at := len(word) + 1
		for _, n := range []string{"65537", "65540", "99999", "100000", "655360", "4294967296", "9223372036854775807", "9223372036854775808", "18446744073709551616", "18446744073709551617", strings.Repeat("1", 60000)} {
			wantFault(t, word+"("+n+")", api.ErrRange, at)
			wantFault(t, word+"( "+n+" )", api.ErrRange, at+1)
			wantFault(t, "'a' | "+word+"("+n, api.ErrRange, at+6)
		}
	}
	for _, word := range []string{"ANY", "NOTANY", "SPAN", "BREAK", "BREAKX"} {
		at := len(word) + 1
		wantFault(t, word+"('')", api.ErrFit, at)
		wantFault(t, word+" ( '' )", api.ErrFit, at+2)
		wantFault(t, "'' ("+word+"(''", api.ErrFit, at+4)
	}
}

// Every number up to a little above MaxText.
func TestD4ReadEachNumber(t *testing.T) {
	for n := range api.MaxText + 1000 {
		s := "POS(" + strconv.Itoa(n) + ")"
		if n > api.MaxText {
			wantFault(t, s, api.ErrRange, 4)
		} else {
			wantRead(t, s, number(api.PatPos, n))
		}
	}
}

// Of every byte: alone, behind a piece, within a text, in a name, and in a word.
func TestD4ReadEachByte(t *testing.T) {
	for b := range 256 {
		s := string([]byte{byte(b)})
		for _, text := range []string{s, "'a'" + s, "'a'" + s + "'b'", "'" + s + "'", "@X" + s, "@" + s, "LEN" + s, "LEN(" + s + ")", "LEN(1" + s + ")", "ANY(" + s + ")", "(" + s, "'a' ." + s, "'a' |" + s, "ARBNO(ARB" + s, s + "ARB"} {
			wantAsModel(t, text)
		}
	}
}

func TestD4ReadBrackets(t *testing.T) {
	a := bare(api.PatArb)
	most := api.MaxDepth
	wantRead(t, nest("(", "ARB", most-1), a)
	wantRead(t, nest("(", "ARB", most), a)
	wantFault(t, nest("(", "ARB", most+1), api.ErrMuch, most+1)
	wantFault(t, nest("(", "ARB", 30000), api.ErrMuch, most+1)
	wantRead(t, nest("(", "LEN(1) ANY('a')", most), cat(number(api.PatLen, 1), text(api.PatAny, "a"))) // those of a number or a text do not count
	wantRead(t, "("+nest("(", "ARB", most-1)+nest("(", "ARB", most-1)+")", cat(a, a))                  // nor do those that are shut
	wantRead(t, strings.Repeat("(ARB)", 300), cat(slicesOf(a, 300)...))
	wantRead(t, nest("(", "ARBNO(ARB)", most-1), arbno(a))
	wantFault(t, nest("(", "ARBNO(ARB)", most), api.ErrMuch, most+6)
	wantFault(t, nest("(", "ARBNO (ARB)", most), api.ErrMuch, most+7)
	wantFault(t, nest("( ", "ARB", most+1), api.ErrMuch, 2*most+1) // behind the bracket, not at what follows it
	wantRead(t, nest("ARBNO(", "ARB", most-1), deep(most))
	wantFault(t, nest("ARBNO(", "ARB", most), api.ErrMuch, 0) // Size says so
	wantFault(t, nest("ARBNO(", "ARB", most+1), api.ErrMuch, 6*(most+1))
	wantRead(t, nest("(ARBNO(", "ARB", most/2)+strings.Repeat(")", most/2), deep(most/2+1)) // both kinds count together
	wantFault(t, nest("(ARBNO(", "ARB", most/2+1)+strings.Repeat(")", most/2+1), api.ErrMuch, 7*(most/2)+1)
	wantFault(t, nest("'a' | (", "ARB", most+1), api.ErrMuch, 7*(most+1))
}

func slicesOf(p api.Pat, n int) []api.Pat {
	var out []api.Pat
	for range n {
		out = append(out, p)
	}
	return out
}

// What Size says is told when nothing else is wrong.
func TestD4ReadTooMuch(t *testing.T) {
	a := lit("a")
	chain := a
	for range api.MaxDepth - 1 {
		chain = cond(chain, "X")
	}
	wantRead(t, "'a'"+strings.Repeat(".X", api.MaxDepth-1), chain)
	wantFault(t, "'a'"+strings.Repeat(".X", api.MaxDepth), api.ErrMuch, 0)
	wantFault(t, "'a'"+strings.Repeat("$X", 32766), api.ErrMuch, 0)
	wantFault(t, "'a'"+strings.Repeat("$X", 32766)+"$", api.ErrForm, api.MaxText)
	wantFault(t, "'a'"+strings.Repeat(".X", api.MaxDepth)+" .", api.ErrForm, 3+2*api.MaxDepth+2)
	for _, between := range []string{" ", "|"} {
		kind := api.PatCat
		if between == "|" {
			kind = api.PatAlt
		}
		some := strings.Repeat("'a'"+between, api.MaxNodes-2)
		wantRead(t, some+"'a'", api.Pat{Kind: kind, Kids: slicesOf(a, api.MaxNodes-1)})
		wantFault(t, some+"'a'"+between+"'a'", api.ErrMuch, 0)
		wantFault(t, some+"'a'"+between+"'a'"+between+"x", api.ErrForm, 4*api.MaxNodes)
		wantFault(t, some+"'a'"+between+"'a'"+between+"X", api.ErrName, 4*api.MaxNodes)
		wantFault(t, some+"(('a' . X))", api.ErrMuch, 0)
	}
	wantFault(t, strings.Repeat("*A", api.MaxText/2), api.ErrMuch, 0)
	wantRead(t, "'"+full[2:]+"'", lit(full[2:]))
	wantRead(t, strings.Repeat("'", api.MaxText), lit(strings.Repeat("'", api.MaxText/2-1)))
}

// A text that is too long is told ahead of all else; of the others the one that is met first.
func TestD4ReadWhatIsToldFirst(t *testing.T) {
	for _, c := range []struct {
		text string
		err  api.Errno
		at   int
	}{
		{over, api.ErrMuch, 0},
		{strings.Repeat(" ", api.MaxText+1), api.ErrMuch, 0},
		{"'" + full[1:] + "'", api.ErrMuch, 0},
		{") X" + full, api.ErrMuch, 0},
		{strings.Repeat("(", api.MaxText+1), api.ErrMuch, 0},
		{"LEN(65537", api.ErrRange, 4},
		{"LEN(65537;", api.ErrRange, 4},
		{"LEN(065537)", api.ErrForm, 5},
		{"LEN(65537) X ;", api.ErrRange, 4},
		{"LEN 65537", api.ErrForm, 4},
		{"65537", api.ErrForm, 0},
		{"ANY('' X", api.ErrFit, 4},
		{"ANY(''", api.ErrFit, 4},
		{"ANY(''')", api.ErrForm, 8},
		{"ANY ''", api.ErrForm, 4},
		{"X LEN(65537)", api.ErrName, 0},
		{"X;", api.ErrName, 0},
		{"X(", api.ErrName, 0},
		{"Xa", api.ErrName, 0},
		{"; X", api.ErrForm, 0},
		{"*ABCDEFGHIJKLMNOPQ;", api.ErrName, 1},
		{"'a' . ABCDEFGHIJKLMNOPQ ANY('')", api.ErrName, 6},
		{"('a' X", api.ErrName, 5},
		{"('a' ANY('')", api.ErrFit, 9},
		{"LEN(3 ANY('')", api.ErrForm, 6},
		{"ANY('') LEN(65537)", api.ErrFit, 4},
		{"LEN(65537) ANY('')", api.ErrRange, 4},
		{nest("(", "X", api.MaxDepth), api.ErrName, api.MaxDepth},
		{nest("(", "X", api.MaxDepth+1), api.ErrMuch, api.MaxDepth + 1},
		{nest("(", "", api.MaxDepth), api.ErrForm, api.MaxDepth},
		{nest("(", "", api.MaxDepth+1), api.ErrMuch, api.MaxDepth + 1},
		{strings.Repeat("(", api.MaxDepth+1), api.ErrMuch, api.MaxDepth + 1},
		{strings.Repeat("(", api.MaxDepth) + "ARBNO", api.ErrForm, api.MaxDepth + 5},
		{strings.Repeat("(", api.MaxDepth) + "ARBNO(", api.ErrMuch, api.MaxDepth + 6},
		{"X" + nest("(", "ARB", api.MaxDepth+1), api.ErrName, 0},
		{nest("ARBNO(", "ARB", api.MaxDepth) + ")", api.ErrForm, 7*api.MaxDepth + 3},
		{nest("ARBNO(", "ARB", api.MaxDepth) + "X", api.ErrName, 7*api.MaxDepth + 3},
	} {
		wantFault(t, c.text, c.err, c.at)
	}
}

// wantAsModel holds what is read against what the model reads, and then against what is written of it.
func wantAsModel(t *testing.T, text string) {
	t.Helper()
	want, fault := modelRead(text)
	if fault.Err != api.OK {
		wantFault(t, text, fault.Err, fault.At)
		return
	}
	wantRead(t, text, want)
	if wrong := pats.Wrong(want); wrong != api.OK {
		t.Errorf("Read %q: what comes is wrong by %d", brief(text), wrong)
	}
	s, err := pats.Print(want)
	if err != api.OK {
		t.Errorf("Print of what is read from %q: error %d", brief(text), err)
	}
	wantRead(t, s, want)
}

// All rows of few signs, apart and close together.
func TestD4ReadAllFewSigns(t *testing.T) {
	signs := []string{"'a'", "''", "'", "LEN", "ANY", "ARBNO", "ARB", "X", "ABCDEFGHIJKLMNOPQ", "(", ")", "|", ".", "$", "@", "*", "3", "03", "65537", ";"}
	rows := [][]string{{}}
	for from, n := 0, 1; n <= 4; n++ {
		to := len(rows)
		for _, row := range rows[from:to] {
			for _, s := range signs {
				rows = append(rows, append(append([]string{}, row...), s))
			}
		}
		from = to
	}
	for _, row := range rows {
		wantAsModel(t, strings.Join(row, ""))
		wantAsModel(t, " "+strings.Join(row, "  "))
	}
}

// All small texts of bytes with which signs begin, go on and end.
func TestD4ReadAllSmallTexts(t *testing.T) {
	const alphabet = "'A|(). *"
	last := []string{""}
	for range 6 {
		var next []string
		for _, s := range last {
			for i := range len(alphabet) {
				next = append(next, s+alphabet[i:i+1])
				wantAsModel(t, s+alphabet[i:i+1])
			}
		}
		last = next
	}
}

// Texts of patterns of all kinds, each with one byte left out, put in or replaced.
func TestD4ReadBesideWhatIsWritten(t *testing.T) {
	d := dice(29)
	bytes := "'A1 |().$@*;0L\x00"
	for i := range 3000 {
		s, err := pats.Print(mixed(&d, 1+i%4))
		if err != api.OK || len(s) > 300 {
			continue
		}
		wantAsModel(t, s)
		for range 12 {
			at := d.below(len(s))
			b := d.below(len(bytes))
			wantAsModel(t, s[:at]+s[at+1:])
			wantAsModel(t, s[:at]+bytes[b:b+1]+s[at:])
			wantAsModel(t, s[:at]+bytes[b:b+1]+s[at+1:])
			wantAsModel(t, s[:at])
		}
	}
}
