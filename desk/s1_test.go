package desk_test

import (
	"strings"
	"testing"

	"scanfail/api"
	"scanfail/desk"
)

// The document's example 18.
func TestS1Answers(t *testing.T) {
	d := desk.New()
	want(t, d, "new A", "ok")
	want(t, d, "line A  OUTPUT = 1 + 1", "ok")
	want(t, d, "run A", "2\nended 1 1")
	want(t, d, "list A", " OUTPUT = 1 + 1\n")
	want(t, d, "run B", "error 7")
}

func TestS1AtFirstThereIsNone(t *testing.T) {
	for _, name := range append(asked, "a", "OUTPUT", "END") {
		for _, line := range []string{"list " + name, "run " + name, "quick " + name, "drop " + name, "line " + name + " X = 1", "input " + name + " x"} {
			wantWrong(t, desk.New(), line, api.ErrName)
		}
	}
	wantWrong(t, desk.New(), "undo", api.ErrState)
}

// A line that is too long is that, whatever else is wrong with it.
func TestS1TooLong(t *testing.T) {
	filled := func(begin string, n int) string { return begin + strings.Repeat("A", n-len(begin)) }
	for _, c := range []struct {
		begin string
		just  string // what is answered, if the line is just not too long
	}{
		{"", "error 1"},
		{" ", "error 1"},
		{"undo", "error 1"},
		{"undo ", "error 1"},
		{"new", "error 1"},
		{"new ", "error 2"},
		{"new B", "error 2"},
		{"new B ", "error 2"},
		{"new A ", "error 2"},
		{"line", "error 1"},
		{"line ", "error 2"},
		{"line B ", "error 7"},
		{"line A ", "error 7"}, // a label of too many signs
		{"line A  X = '", "error 2"},
		{"line A *", "error 2"},
		{"line A  X = 'A' & ", "error 7"},
		{"input ", "error 2"},
		{"input B ", "error 7"},
		{"input A ", "ok"},
		{"quick ", "error 7"},
		{"quick A ", "error 2"},
		{"drop ", "error 7"},
		{"drop A ", "error 2"},
		{"list ", "error 7"},
		{"list A ", "error 2"},
		{"run ", "error 7"},
		{"run A ", "error 2"},
	} {
		for _, d := range []*desk.Desk{after(t, "new A"), desk.New()} {
			wantWrong(t, d, filled(c.begin, api.MaxLine+1), api.ErrMuch)
			wantWrong(t, d, filled(c.begin, api.MaxLine+2), api.ErrMuch)
			wantWrong(t, d, filled(c.begin, 100000), api.ErrMuch)
		}
		want(t, after(t, "new A"), filled(c.begin, api.MaxLine), c.just)
	}
	wantWrong(t, desk.New(), strings.Repeat(" ", api.MaxLine+1), api.ErrMuch)
	wantWrong(t, desk.New(), strings.Repeat("\n", api.MaxLine+1), api.ErrMuch)
	wantWrong(t, desk.New(), "undo"+strings.Repeat(" ", api.MaxLine), api.ErrMuch)
}

// A line with a statement may be as long as that, too, and all of it comes in.
func TestS1JustNotTooLong(t *testing.T) {
	text := strings.Repeat("x", api.MaxLine-len("line A  OUTPUT = ''"))
	line := "line A  OUTPUT = '" + text + "'"
	if len(line) != api.MaxLine {
		t.Fatalf("the line has %d bytes", len(line))
	}
	d := after(t, "new A", line)
	want(t, d, "list A", " OUTPUT = '"+text+"'\n")
	want(t, d, "run A", text+"\nended 1 1")
	long := strings.Repeat("y", api.MaxLine-len("input A "))
	d = after(t, "new A", "line A L OUTPUT = INPUT :S(L)", "input A "+long)
	want(t, d, "run A", long+"\nended 1 2")
}

func TestS1NothingToUndo(t *testing.T) {
	d := desk.New()
	wantWrong(t, d, "undo", api.ErrState)
	wantWrong(t, d, "undo", api.ErrState)
	for _, line := range []string{"", "new", "new a", "list A", "run A", "drop A", "line A", "line A x", "input A x", "quick A", "undo ", "redo"} {
		d.Do(line)
		wantWrong(t, d, "undo", api.ErrState)
	}
	oks(t, d, "new A", "undo")
	wantWrong(t, d, "undo", api.ErrState)
	oks(t, d, "new A", "drop A", "undo", "undo")
	wantWrong(t, d, "undo", api.ErrState)
	oks(t, d, "new A", "undo")
}

// undo stands alone: with something behind it, or ahead, it is none of the words, be there a change left or not.
func TestS1UndoWithSomethingElse(t *testing.T) {
	for _, line := range []string{"undo ", "undo  ", "undo A", "undo A B", "undo undo", "undo 1", " undo", "undo\n", "undo\t", "undo\x00", "Undo", "UNDO", "und", "undoundo"} {
		wantWrong(t, desk.New(), line, api.ErrKind)
		d := after(t, "new A", "input A x")
		wantWrong(t, d, line, api.ErrKind)
		wantSame(t, line, d, after(t, "new A", "input A x"))
	}
}

func TestS1Words(t *testing.T) {
	for _, line := range []string{
		"", " ", "  ", " new A", "  new A", " list A", "news A", "ne A", "newA", "NEW A", "New A", "new\tA", "new\nA", "new\x00 A", "\x00", "\xff", "\xffnew A", "*", "A", "A new", "1", "0 A", "ok", "error 1", "redo", "redo A", "redo A B", "help", "end A", "ended 1 1",
		"lines A x", "lin A x", "LINE A x", "lineA x", "line\tA x", "inputs A x", "INPUT A x", "input\tA x", "quicken A", "quic A", "quick\tA", "dro A", "drops A", "drop\tA", "lists A", "list\tA", "lis A", "ru A", "runs A", "run\tA", "add A", "begin A", "",
		" OUTPUT = 1", "new,A", "new-A", "new:A", "'new' A",
	} {
		wantWrong(t, desk.New(), line, api.ErrKind)
		wantWrong(t, after(t, "new A", "line A  OUTPUT = 1"), line, api.ErrKind)
	}
}

// The word ends at the first blank; where there is none, a name is missing.
func TestS1WithoutAName(t *testing.T) {
	for _, word := range []string{"new", "line", "input", "quick", "drop", "list", "run"} {
		wantWrong(t, desk.New(), word, api.ErrForm)
		wantWrong(t, after(t, "new A"), word, api.ErrForm)
	}
}

// The name may be nothing: then it is no name for new, and nobody's for all others.
func TestS1EmptyName(t *testing.T) {
	for _, d := range []*desk.Desk{desk.New(), after(t, "new A")} {
		wantWrong(t, d, "new ", api.ErrForm)
		for _, line := range []string{"quick ", "drop ", "list ", "run ", "line  ", "line  x", "line   OUTPUT = 1", "line  *", "line  A x", "input  ", "input   ", "input  x", "input  A x"} {
			wantWrong(t, d, line, api.ErrName)
		}
	}
}

// Where no text may stand there is no blank behind the name, be that one's or nobody's.
func TestS1BlankBehindTheName(t *testing.T) {
	for _, word := range []string{"new", "quick", "drop", "list", "run"} {
		for _, behind := range []string{" A ", " A  ", " A B", " A A", " B ", " B x", " a ", " a b", "  ", "  A", "   ", " A 'x'"} {
			wantWrong(t, after(t, "new A"), word+behind, api.ErrForm)
			wantWrong(t, desk.New(), word+behind, api.ErrForm)
		}
	}
}

// A text stands for line and input: one blank behind the name there must be, and behind it the text may be empty.
func TestS1Texts(t *testing.T) {
	for _, line := range []string{"line", "line ", "line A", "line B", "line a", "line AX=1", "input", "input ", "input A", "input B", "input a", "input A\tx"} {
		wantWrong(t, after(t, "new A"), line, api.ErrForm)
		wantWrong(t, desk.New(), line, api.ErrForm)
	}
	d := after(t, "new A", "line A ", "input A ")
	want(t, d, "list A", "\n")
	want(t, d, "run A", "ended 1 1")
	oks(t, d, "line A L OUTPUT = INPUT :S(L)")
	want(t, d, "run A", "\nended 1 3")
	oks(t, d, "input A  ", "input A   x  y ", "input A new A", "input A\x20\tz", "input A 'q", "input A a\nb", "input A \x00\xff")
	want(t, d, "run A", "\n \n  x  y \nnew A\n\tz\n'q\na\nb\n\x00\xff\nended 1 10")
}

// The blank is the byte 32 alone.
func TestS1NameUpToABlank(t *testing.T) {
	d := after(t, "new A", "input A x")
	for _, name := range []string{"A\t", "A\tB", "A\n", "A\r", "A\x00", "A,", "A,B", "\tA", "A\u00a0B"} {
		wantWrong(t, d, "new "+name, api.ErrForm)
		wantWrong(t, d, "list "+name, api.ErrName)
		wantWrong(t, d, "run "+name, api.ErrName)
		wantWrong(t, d, "input "+name+" x", api.ErrName)
		wantWrong(t, d, "line "+name+" x", api.ErrName)
	}
}

// Each thing that is wrong is told ahead of those behind it.
func TestS1Order(t *testing.T) {
	full := after(t, news(names(api.MaxNamed))...)
	wantWrong(t, full, "new N0 ", api.ErrForm)
	wantWrong(t, full, "news N0 ", api.ErrKind)
	wantWrong(t, full, "new X ", api.ErrForm)
	wantWrong(t, full, "line X", api.ErrForm)
	wantWrong(t, full, "line X  Y =", api.ErrName)
	wantWrong(t, full, "lines X  Y =", api.ErrKind)
	wantWrong(t, full, "lines"+strings.Repeat(" X Y =", 400), api.ErrMuch)
	for _, line := range []string{"undo", "undo ", "x", "new", "new A ", "line A", "list B "} {
		d := desk.New()
		wantWrong(t, d, line+strings.Repeat(" ", api.MaxLine+1-len(line)), api.ErrMuch)
	}
}

// wrongs are lines with all sorts of things wrong, on the desk of TestS1NothingIsChanged.
var wrongs = []string{
	strings.Repeat("a", api.MaxLine+1), "new C" + strings.Repeat(" ", api.MaxLine), "input A " + strings.Repeat("a", api.MaxLine), "line A " + strings.Repeat(" ", api.MaxLine), "drop A" + strings.Repeat(" ", api.MaxLine),
	"", "undo ", "undo A", "redo", " drop A", "DROP A",
	"new", "new ", "new A", "new B", "new a", "new C ", "new C D", "new ABCDEFGHIJKLMNOPQ",
	"line", "line A", "line C  X = 1", "line A  X =", "line A  X = 01", "line A *", "line A * a remark", "line  X", "line A X X = 'a", "line A  F(X) = 1",
	"input", "input A", "input C x", "input  x",
	"quick", "quick ", "quick B", "quick C", "quick A ", "quick A B",
	"drop", "drop ", "drop C", "drop A ", "drop A B",
	"list", "list ", "list C", "list A ", "run", "run ", "run B", "run C", "run A ",
}

// Where something is wrong nothing is changed: neither what a desk tells, nor what can be undone.
func TestS1NothingIsChanged(t *testing.T) {
	lines := []string{"new A", "line A L OUTPUT = INPUT :S(L)", "input A x", "input A y", "new B", "line B  :(M)", "input B z", "quick A", "line A  OUTPUT = 1 + 1"}
	for _, line := range wrongs {
		d := after(t, lines...)
		if got := d.Do(line); !strings.HasPrefix(got, "error ") {
			t.Errorf("Do(%s) is %s; want an error", brief(line), brief(got))
		}
		wantSame(t, "behind "+brief(line), d, after(t, lines...))
	}
	d := after(t, lines[0])
	for _, line := range lines[1:] {
		for _, wrong := range wrongs {
			if !strings.Contains(wrong, "B") { // what is wrong with B is not yet wrong at the beginning
				d.Do(wrong)
			}
		}
		oks(t, d, line)
	}
	wantSame(t, "among all that is wrong", d, after(t, lines...))
}
