package desk_test

import (
	"fmt"
	"strings"
	"testing"

	"scanfail/api"
	"scanfail/desk"
)

func TestS2NewNames(t *testing.T) {
	d := desk.New()
	for _, name := range []string{"A", "Z", "A0", "Z9", "AB", "ABCDEFGHIJKLMNOP", "A123456789012345", "END", "OUTPUT", "NEW", "UNDO"} {
		want(t, d, "new "+name, "ok")
		want(t, d, "list "+name, "")
		want(t, d, "run "+name, "ended 1 0")
	}
	for _, name := range []string{"", "a", "aA", "Aa", "0", "0A", "9", "A_", "_A", "A-B", "A.B", "'A'", "A,B", "Ä", "A\xc4", "A\x00", "\x00", "A\n", "\nA", "A\t", "ABCDEFGHIJKLMNOPQ", "A1234567890123456", strings.Repeat("A", 1000), "[", "@", "A[", "A@", "A/", "A:"} {
		wantWrong(t, d, "new "+name, api.ErrForm)
		wantWrong(t, d, "list "+name, api.ErrName)
	}
}

func TestS2NewIsThereAlready(t *testing.T) {
	d := after(t, "new A", "line A  OUTPUT = 1")
	wantWrong(t, d, "new A", api.ErrName)
	want(t, d, "run A", "1\nended 1 1")
	oks(t, d, "new B")
	wantWrong(t, d, "new B", api.ErrName)
	wantWrong(t, d, "new A", api.ErrName)
	oks(t, d, "drop A", "new A")
	wantWrong(t, d, "new A", api.ErrName)
	want(t, d, "run A", "ended 1 0")
}

// MaxNamed programs there may be at once. That a name is none, and that there is such a program, is told ahead of that.
func TestS2NewUpToMaxNamed(t *testing.T) {
	d := after(t, news(names(api.MaxNamed))...)
	wantWrong(t, d, "new X", api.ErrMany)
	wantWrong(t, d, "new N20", api.ErrMany)
	wantWrong(t, d, "new ABCDEFGHIJKLMNOP", api.ErrMany)
	wantWrong(t, d, "new x", api.ErrForm)
	wantWrong(t, d, "new ", api.ErrForm)
	wantWrong(t, d, "new ABCDEFGHIJKLMNOPQ", api.ErrForm)
	for _, name := range names(api.MaxNamed) {
		wantWrong(t, d, "new "+name, api.ErrName)
		want(t, d, "run "+name, "ended 1 0")
	}
	wantWrong(t, d, "run X", api.ErrName)
	oks(t, d, "drop N7", "new X")
	wantWrong(t, d, "new N7", api.ErrMany)
	oks(t, d, "undo", "new N7")
	wantWrong(t, d, "new X", api.ErrMany)
	oks(t, d, "undo", "undo")
	wantWrong(t, d, "new X", api.ErrMany)
	wantWrong(t, d, "new N7", api.ErrName)
}

// All others need a program; what else is wrong with them is told behind that.
func TestS2NobodyHasTheName(t *testing.T) {
	for _, d := range []*desk.Desk{desk.New(), after(t, "new B"), after(t, "new A", "drop A"), after(t, "new A", "undo"), after(t, "new AB", "new A1"), after(t, news(names(api.MaxNamed))...)} {
		for _, line := range []string{"line A ", "line A  X = 1", "line A  X =", "line A *", "line A  X = 9223372036854775808", "line a x", "input A ", "input A x", "quick A", "drop A", "list A", "run A", "quick a", "drop 1", "list A\x00", "run ABCDEFGHIJKLMNOPQ"} {
			wantWrong(t, d, line, api.ErrName)
		}
	}
}

// Statements stand one behind the other, in the order in which they came.
func TestS2Line(t *testing.T) {
	d := after(t, "new A", "line A  N = 2", "line A L OUTPUT = N * N", "line A  N = N + 1", "line A  LT(N, 5) :S(L)F(END)", "line A ", "line A :(END)", "line A  X ? ['a' . Y] = (1 + (2))")
	want(t, d, "list A", " N = 2\nL OUTPUT = N * N\n N = N + 1\n LT(N, 5) :S(L)F(END)\n\n :(END)\n X ? ['a' . Y] = 1 + 2\n")
	want(t, d, "run A", "4\n9\n16\nended 1 10")
	d = after(t, "new A", "line A  OUTPUT = 1", "line A  OUTPUT = 1", "line A  OUTPUT = 2")
	want(t, d, "run A", "1\n1\n2\nended 1 3")
}

// What is wrong with a program as a whole is no matter, as long as it is not run or made quicker.
func TestS2LineLooksAtTheLineAlone(t *testing.T) {
	d := after(t, "new A", "line A L X = 1 :(M)", "line A L X = F(1)", "line A END", "line A  DEFINE SIZE(INPUT) NOWHERE", "line A  SIZE(1, 2)")
	want(t, d, "list A", "L X = 1 :(M)\nL X = F(1)\nEND\n DEFINE SIZE(INPUT) NOWHERE\n SIZE(1, 2)\n")
}

// All errors of a line are told by their number alone.
func TestS2LinesError(t *testing.T) {
	d := after(t, "new A")
	for _, c := range []struct {
		text string
		err  api.Errno
	}{
		{" X =", api.ErrForm},
		{" X = 'a", api.ErrForm},
		{" X ; Y", api.ErrForm},
		{" X = 01", api.ErrForm},
		{"\tX = 1", api.ErrForm},
		{"x", api.ErrForm},
		{" X = 1\n X = 2", api.ErrForm},
		{"\n", api.ErrForm},
		{" *", api.ErrForm},
		{" 'a' ? [LEN(]", api.ErrForm},
		{" 'a' ? [LEN(01)]", api.ErrForm},
		{"ABCDEFGHIJKLMNOPQ", api.ErrName},
		{" ABCDEFGHIJKLMNOPQ = 1", api.ErrName},
		{" 'a' ? [LENGTH(1)]", api.ErrName},
		{" X = 9223372036854775808", api.ErrRange},
		{" 'a' ? [LEN(65537)]", api.ErrRange},
		{" F(X) = 1", api.ErrFit},
		{" 1 = 1", api.ErrFit},
		{" 'a' ? [ANY('')]", api.ErrFit},
		{" F(1, 2, 3, 4, 5, 6, 7, 8, 9)", api.ErrMany},
		{" DEFINE F(A, B, C, D, E, F, G, H, I) L", api.ErrMany},
		{" X = " + strings.Repeat("(", api.MaxDeep+1) + "1", api.ErrMuch},
		{" 'a' ? [" + strings.Repeat("(", api.MaxDepth+1) + "'a'", api.ErrForm}, // the pattern does not end: that is no token
		{" 'a' ? [" + strings.Repeat("(", api.MaxDepth+1) + "'a'" + strings.Repeat(")", api.MaxDepth+1) + "]", api.ErrMuch},
		{" X = " + strings.Repeat("-", api.MaxDepth) + "1", api.ErrMuch},
	} {
		wantWrong(t, d, "line A "+c.text, c.err)
	}
	want(t, d, "list A", "")
	oks(t, d, "undo")
	wantWrong(t, d, "undo", api.ErrState)
}

// A remark is no statement, so it is wrong, whatever else it may be.
func TestS2LineIsARemark(t *testing.T) {
	d := after(t, "new A")
	for _, text := range []string{"*", "* a remark", "*x", "**", "* 'a", "*\n", "*\x00", "*" + strings.Repeat("*", 1900)} {
		wantWrong(t, d, "line A "+text, api.ErrForm)
	}
	want(t, d, "list A", "")
	want(t, d, "run A", "ended 1 0")
}

// MaxLines statements a program may have. What is wrong with the line, and that it is a remark, is told ahead of that.
func TestS2LineUpToMaxLines(t *testing.T) {
	d := after(t, append([]string{"new A"}, times("line A  N = N + 1", api.MaxLines-2)...)...)
	oks(t, d, "line A ", "line A  OUTPUT = N")
	want(t, d, "run A", "998\nended 1 1000")
	wantWrong(t, d, "line A  OUTPUT = N", api.ErrMany)
	wantWrong(t, d, "line A ", api.ErrMany)
	wantWrong(t, d, "line A  X =", api.ErrForm)
	wantWrong(t, d, "line A ABCDEFGHIJKLMNOPQ", api.ErrName)
	wantWrong(t, d, "line A  X = 9223372036854775808", api.ErrRange)
	wantWrong(t, d, "line A  1 = 1", api.ErrFit)
	wantWrong(t, d, "line A *", api.ErrForm)
	want(t, d, "list A", strings.Repeat(" N = N + 1\n", 998)+"\n OUTPUT = N\n")
	want(t, d, "run A", "998\nended 1 1000")
	oks(t, d, "quick A")
	wantWrong(t, d, "line A ", api.ErrMany)
	oks(t, d, "new B", "line B ", "input A x")
	oks(t, d, "undo", "undo", "undo", "undo", "undo")
	oks(t, d, "line A  OUTPUT = 'end'")
	wantWrong(t, d, "line A ", api.ErrMany)
	want(t, d, "run A", "end\nended 1 1000")
}

// Lines come in in the order in which they came.
func TestS2Input(t *testing.T) {
	d := after(t, "new A", "line A L OUTPUT = INPUT :S(L)", "input A b", "input A ", "input A a", "input A  OUTPUT = 1", "input A *")
	want(t, d, "run A", "b\n\na\n OUTPUT = 1\n*\nended 1 6")
	want(t, d, "list A", "L OUTPUT = INPUT :S(L)\n")
	oks(t, d, "input A b")
	want(t, d, "run A", "b\n\na\n OUTPUT = 1\n*\nb\nended 1 7")
	d = after(t, "new A", "input A x", "line A  OUTPUT = INPUT", "input A y", "line A  OUTPUT = INPUT")
	want(t, d, "run A", "x\ny\nended 1 2")
}

// A text that comes in may be anything, and is not changed.
func TestS2InputIsAnyText(t *testing.T) {
	for _, text := range []string{"", " ", "\t", "\n", "a\n", "\r\n", "\x00", "\xff\xfe", "'", "''", "ä", "input A x", "undo", "error 1", "x ", " x", "  "} {
		d := after(t, "new A", "line A  OUTPUT = INPUT", "input A "+text)
		want(t, d, "run A", text+"\nended 1 1")
	}
	d := after(t, "new A", "line A  X = INPUT", "line A  OUTPUT = SIZE(X)", "input A "+strings.Repeat("x", api.MaxLine-8))
	want(t, d, "run A", fmt.Sprintf("%d\nended 1 2", api.MaxLine-8))
}

// MaxInput lines may come in.
func TestS2InputUpToMaxInput(t *testing.T) {
	d := after(t, append([]string{"new A", "line A L X = INPUT :F(M)", "line A  N = N + 1 :(L)", "line A M OUTPUT = N & X"}, times("input A a", api.MaxInput-1)...)...)
	oks(t, d, "input A b")
	want(t, d, "run A", "1000b\nended 1 2002")
	wantWrong(t, d, "input A c", api.ErrMany)
	wantWrong(t, d, "input A ", api.ErrMany)
	want(t, d, "run A", "1000b\nended 1 2002")
	oks(t, d, "new B", "input B x", "line A ")
	oks(t, d, "undo", "undo", "undo", "undo", "input A c")
	want(t, d, "run A", "1000c\nended 1 2002")
	wantWrong(t, d, "input A c", api.ErrMany)
}

// The program becomes what Program makes of it; what comes in stays.
func TestS2Quick(t *testing.T) {
	d := after(t, "new A", "line A  OUTPUT = 'a' & 2 + 3 :(M)", "line A M :(N)", "line A N OUTPUT = INPUT", "line A  'ab' ? ['a' 'b'] :F(END)", "line A  T<1 + 1> = Y + 1 / 0", "input A x", "input A y")
	want(t, d, "run A", "a5\nx\nended 1 8")
	want(t, d, "quick A", "ok")
	want(t, d, "list A", " OUTPUT = 'a5' :(N)\nM :(N)\nN OUTPUT = INPUT\n 'ab' ? ['ab'] :F(END)\n T<2> = Y + 1 / 0\n")
	want(t, d, "run A", "a5\nx\nended 1 5")
	oks(t, d, "quick A", "line A  OUTPUT = INPUT", "line A  OUTPUT = 1 + 1")
	want(t, d, "run A", "a5\nx\ny\n2\nended 1 7")
	want(t, d, "list A", " OUTPUT = 'a5' :(N)\nM :(N)\nN OUTPUT = INPUT\n 'ab' ? ['ab'] :F(END)\n T<2> = Y + 1 / 0\n OUTPUT = INPUT\n OUTPUT = 1 + 1\n")
	d = after(t, "new A", "quick A", "quick A")
	want(t, d, "list A", "")
}

// wholes are programs with which as a whole something is wrong: both quick and run tell that.
var wholes = []struct {
	lines []string
	err   api.Errno
}{
	{[]string{" :(L)"}, api.ErrNone},
	{[]string{" X = 1 :S(L)"}, api.ErrNone},
	{[]string{" DEFINE F(A) L"}, api.ErrNone},
	{[]string{"L", "L"}, api.ErrName},
	{[]string{"END"}, api.ErrName},
	{[]string{" X = F(1)"}, api.ErrName},
	{[]string{"L DEFINE SIZE(A) L"}, api.ErrName},
	{[]string{" X = SIZE(1, 2)"}, api.ErrMany},
	{[]string{"L DEFINE F(A) L", " F(1, 2)"}, api.ErrMany},
	{[]string{" X = SIZE()", " :(L)"}, api.ErrMany}, // at the first statement
	{[]string{" :(L)", " X = SIZE()"}, api.ErrNone},
	{[]string{" :(L)", "M", "M"}, api.ErrName}, // labels that stand twice are looked for ahead of those that are missing
}

func TestS2QuickIsWrong(t *testing.T) {
	for _, c := range wholes {
		d := after(t, "new A", "input A x")
		for _, line := range c.lines {
			oks(t, d, "line A "+line)
		}
		list := d.Do("list A")
		wantWrong(t, d, "quick A", c.err)
		want(t, d, "list A", list)
		want(t, d, "list A", strings.Join(c.lines, "\n")+"\n")
	}
}

func TestS2RunIsWrong(t *testing.T) {
	for _, c := range wholes {
		d := after(t, "new A", "line A  OUTPUT = 'told'")
		for _, line := range c.lines {
			oks(t, d, "line A "+line)
		}
		wantWrong(t, d, "run A", c.err)
		wantWrong(t, d, "run A", c.err)
	}
}

// A program that is dropped and made anew has nothing: neither statements nor lines that come in.
func TestS2Drop(t *testing.T) {
	d := after(t, "new A", "line A L OUTPUT = INPUT :S(L)", "input A x", "new B", "line B  OUTPUT = INPUT", "input B y")
	want(t, d, "drop A", "ok")
	for _, line := range []string{"list A", "run A", "drop A", "quick A", "line A ", "input A x"} {
		wantWrong(t, d, line, api.ErrName)
	}
	want(t, d, "run B", "y\nended 1 1")
	oks(t, d, "new A")
	want(t, d, "list A", "")
	want(t, d, "run A", "ended 1 0")
	oks(t, d, "line A  OUTPUT = INPUT :S(END)", "line A  OUTPUT = 'none'")
	want(t, d, "run A", "none\nended 1 2")
	want(t, d, "run B", "y\nended 1 1")
	oks(t, d, "drop B", "drop A")
	wantWrong(t, d, "run B", api.ErrName)
	wantWrong(t, d, "drop B", api.ErrName)
}

// list tells what Show makes of the statements: as they are written by the document, not as they came; of none nothing.
func TestS2List(t *testing.T) {
	d := after(t, "new A")
	want(t, d, "list A", "")
	oks(t, d, "line A L   X   =(1+2)*3&'a'  :S( L )F(M)")
	want(t, d, "list A", "L X = (1 + 2) * 3 & 'a' :S(L)F(M)\n")
	oks(t, d, "line A ", "line A    ", "line A :(END)", "line A  P:=['a'|('b')]", "line A  DEFINE F(A,B)C,D L")
	want(t, d, "list A", "L X = (1 + 2) * 3 & 'a' :S(L)F(M)\n\n\n :(END)\n P := ['a' | 'b']\n DEFINE F(A,B)C,D L\n")
	want(t, d, "list A", "L X = (1 + 2) * 3 & 'a' :S(L)F(M)\n\n\n :(END)\n P := ['a' | 'b']\n DEFINE F(A,B)C,D L\n")
}

// What Show says is wrong is told, of the first statement with which something is wrong.
func TestS2ListIsWrong(t *testing.T) {
	feed := "line A  OUTPUT = 'a\nb'"
	d := after(t, "new A", feed)
	wantWrong(t, d, "list A", api.ErrForm)
	want(t, d, "run A", "a\nb\nended 1 1")
	wantWrong(t, after(t, "new A", "line A  'a' ? ['\n']"), "list A", api.ErrForm)
	sum := strings.Repeat("1+", 180) + "1"
	wide := "line A  X = SUBSTR(" + sum + "," + sum + "," + sum + ")" // with the blanks around its signs it is longer than MaxLine
	d = after(t, "new A", wide)
	wantWrong(t, d, "list A", api.ErrMuch)
	want(t, d, "run A", "ended 1 1")
	oks(t, d, feed)
	wantWrong(t, d, "list A", api.ErrMuch)
	d = after(t, "new A", "line A  OUTPUT = 'c'", feed, wide)
	wantWrong(t, d, "list A", api.ErrForm)
	oks(t, d, "undo", "undo")
	want(t, d, "list A", " OUTPUT = 'c'\n")
}

// All that is shown may be MaxText bytes long, no more.
func TestS2ListUpToMaxText(t *testing.T) {
	line := func(n int) string { return " X = '" + strings.Repeat("a", n-len(" X = ''\n")) + "'" }
	d := after(t, append([]string{"new A"}, times("line A "+line(655), 100)...)...)
	oks(t, d, "line A "+line(36))
	want(t, d, "list A", strings.Repeat(line(655)+"\n", 100)+line(36)+"\n")
	if got := len(d.Do("list A")); got != api.MaxText {
		t.Errorf("%d bytes are shown", got)
	}
	oks(t, d, "undo", "line A "+line(37))
	wantWrong(t, d, "list A", api.ErrMuch)
	oks(t, d, "undo", "line A "+line(36), "line A ")
	wantWrong(t, d, "list A", api.ErrMuch)
	want(t, d, "run A", "ended 1 102")
	oks(t, d, "undo")
	want(t, d, "list A", strings.Repeat(line(655)+"\n", 100)+line(36)+"\n")
	oks(t, d, "line A "+line(1990), "line A  X = 'a\nb'")
	wantWrong(t, d, "list A", api.ErrForm) // a statement's error comes ahead of that all together are too long
}

// run tells each line with a line feed behind it, how it ended, and within how many steps.
func TestS2Run(t *testing.T) {
	d := after(t, "new A")
	want(t, d, "run A", "ended 1 0")
	oks(t, d, "line A ")
	want(t, d, "run A", "ended 1 1")
	oks(t, d, "line A  OUTPUT = ''", "line A  OUTPUT = 'ended 1 2'", "line A  OUTPUT = 'x' & 'a\nb' & ' '")
	want(t, d, "run A", "\nended 1 2\nxa\nb \nended 1 4")
	oks(t, d, "line A  'abc' ? ['c' @OUTPUT] :F(END)", "line A  1 / 0 :F(END)", "line A  OUTPUT = 'never'")
	want(t, d, "run A", "\nended 1 2\nxa\nb \n3\nended 1 13")
}

// Each run begins anew: nothing is left of the one ahead.
func TestS2RunAgain(t *testing.T) {
	d := after(t, "new A", "line A  N = N + 1", "line A  T<N> = T<N> & 'x'", "line A  OUTPUT = N & T<1> & INPUT", "line A  'a' ? [*P] :S(END)", "line A  P := ['a']", "input A i", "input A j")
	first := d.Do("run A")
	if !strings.HasPrefix(first, "1xi\nended 1 ") {
		t.Errorf("run A is %q", first)
	}
	for range 5 {
		want(t, d, "run A", first)
	}
}

// count is a program that takes as many steps as that: an even number.
func count(steps int) []string {
	return []string{"new A", "line A L N = N + 1", fmt.Sprintf("line A  LT(N, %d) :S(L)", steps/2)}
}

// A run takes DeskLimit steps at most.
func TestS2RunUpToDeskLimit(t *testing.T) {
	d := after(t, "new A", "line A L OUTPUT = N", "line A  N = N + 1 :(L)")
	var told strings.Builder
	told.WriteByte('\n')
	for i := 1; i < api.DeskLimit/2; i++ {
		fmt.Fprintf(&told, "%d\n", i)
	}
	want(t, d, "run A", told.String()+"ended 2 10000")
	want(t, after(t, "new A", "line A L :(L)"), "run A", "ended 2 10000")
	want(t, after(t, count(api.DeskLimit-2)...), "run A", "ended 1 9998")
	d = after(t, count(api.DeskLimit)...)
	want(t, d, "run A", "ended 1 10000")
	oks(t, d, "line A ")
	want(t, d, "run A", "ended 2 10000")
	d = after(t, append(count(api.DeskLimit-2), "line A ")...)
	want(t, d, "run A", "ended 1 9999")
	oks(t, d, "line A  OUTPUT = N")
	want(t, d, "run A", "4999\nended 1 10000")
	oks(t, d, "line A  OUTPUT = N")
	want(t, d, "run A", "4999\nended 2 10000")
}

// A run that would tell too much ends, and what it told till then is told.
func TestS2RunTellsMuch(t *testing.T) {
	d := after(t, "new A", "line A  X = DUPL('a', 65535)", "line A L OUTPUT = X :(L)")
	want(t, d, "run A", strings.Repeat(strings.Repeat("a", 65535)+"\n", 16)+"ended 3 18")
	d = after(t, "new A", "line A L T<N> = DUPL('a', 65535)", "line A  OUTPUT = N", "line A  N = N + 1 :(L)")
	if got := d.Do("run A"); !strings.HasSuffix(got, "\n14\nended 3 46") {
		t.Errorf("run A is %s", brief(got))
	}
}

// Two programs on one desk do not see one another: neither their statements, nor what comes in to them, nor labels, variables, rules, functions.
func TestS2ProgramsAreApart(t *testing.T) {
	d := after(t, "new A", "new B")
	oks(t, d, "line A L OUTPUT = INPUT :S(L)", "line A  X = 'a'", "line A  P := ['a']", "line A  DEFINE F(N) L", "input A x")
	want(t, d, "list B", "")
	want(t, d, "run B", "ended 1 0")
	oks(t, d, "line B L OUTPUT = INPUT & '!' :S(L)", "line B  OUTPUT = X & '?'")
	want(t, d, "run B", "?\nended 1 2")
	oks(t, d, "input B y", "input A z")
	want(t, d, "run A", "x\nz\nended 1 6")
	want(t, d, "run B", "y!\n?\nended 1 3")
	want(t, d, "run A", "x\nz\nended 1 6")
	oks(t, d, "line B  'a' ? [*P] :S(END)", "line B  OUTPUT = 'no P'")
	want(t, d, "run B", "y!\n?\nended 1 6")
	oks(t, d, "line B  OUTPUT = F(1)")
	wantWrong(t, d, "run B", api.ErrName)
	wantWrong(t, d, "quick B", api.ErrName)
	want(t, d, "run A", "x\nz\nended 1 6")
	oks(t, d, "quick A", "drop B")
	want(t, d, "run A", "x\nz\nended 1 6")
}

// Names that begin alike are others.
func TestS2NamesAreWhole(t *testing.T) {
	d := after(t, "new A", "new AB", "new ABC", "new A1", "line AB  OUTPUT = 'AB'", "line A  OUTPUT = 'A'", "line A1  OUTPUT = 'A1'", "drop ABC")
	want(t, d, "run A", "A\nended 1 1")
	want(t, d, "run AB", "AB\nended 1 1")
	want(t, d, "run A1", "A1\nended 1 1")
	wantWrong(t, d, "run ABC", api.ErrName)
}

// Two desks do not see one another, nor one another's changes.
func TestS2DesksAreApart(t *testing.T) {
	a, b := desk.New(), desk.New()
	oks(t, a, "new A", "line A  OUTPUT = INPUT", "input A a")
	wantWrong(t, b, "list A", api.ErrName)
	wantWrong(t, b, "undo", api.ErrState)
	oks(t, b, "new A")
	want(t, b, "list A", "")
	want(t, b, "run A", "ended 1 0")
	oks(t, b, "line A  OUTPUT = 'b' & INPUT", "input A b", "input A c")
	want(t, a, "run A", "a\nended 1 1")
	want(t, b, "run A", "bb\nended 1 1")
	oks(t, a, "drop A")
	want(t, b, "run A", "bb\nended 1 1")
	oks(t, b, "undo", "undo", "undo", "undo")
	wantWrong(t, b, "undo", api.ErrState)
	oks(t, a, "undo")
	want(t, a, "run A", "a\nended 1 1")
	for i, d := range []*desk.Desk{desk.New(), desk.New()} {
		oks(t, d, news(names(api.MaxNamed))...)
		wantWrong(t, d, "new X", api.ErrMany)
		if i == 0 {
			oks(t, d, "drop N0")
		}
	}
}
