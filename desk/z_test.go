package desk_test

import (
	"fmt"
	"slices"
	"strings"
	"testing"
	"unsafe"

	"scanfail/api"
	"scanfail/desk"
)

// Whatever a line is, no call panics, each one ends, and what is answered is what the model answers.
func TestZ1Anything(t *testing.T) {
	d := dice(419)
	pieces := []string{" ", " ", " ", "new", "line", "input", "quick", "drop", "list", "run", "undo", "A", "A", "B", "X", "=", "'a'", "1", "\n", ":", "(", ")", "S(END)", "?", "[", "]", "[ARB]", "&", "$", "<", ">", ",", "DEFINE", "INPUT", "OUTPUT", "*", "''", "'", "\x00", "\xff", "\t", "a"}
	keeper, other := desk.New(), &model{}
	for i := range 100000 {
		var line []byte
		if d.below(2) == 0 {
			line = append(line, pick(&d, "new ", "line A ", "line A  ", "line B ", "input A ", "quick ", "drop ", "list ", "run ")...)
		}
		for range d.below(6) {
			line = append(line, pick(&d, pieces...)...)
		}
		if got, want := keeper.Do(string(line)), other.do(string(line)); got != want {
			t.Fatalf("the %dth line, %q, is answered %q; want %q", i, line, got, want)
		}
		if len(other.changes) > 30 {
			keeper, other = desk.New(), &model{}
		}
	}
}

// Every byte alone, and behind each word, is a line.
func TestZ1AnyByte(t *testing.T) {
	for _, begin := range []string{"", "new", "new ", "new A", "line A", "line A ", "line A  ", "input A", "input A ", "quick A", "drop A", "list A", "run A", "undo", "undo "} {
		for b := range 256 {
			line := begin + string([]byte{byte(b)})
			d, other := after(t, "new A", "line A "), &model{[]string{"new A", "line A "}}
			if got, want := d.Do(line), other.do(line); got != want {
				t.Errorf("Do(%q) is %q; want %q", line, got, want)
			}
		}
	}
}

// A desk on which there is as much as can be does all that it is told, and goes back to the beginning.
func TestZ1Greatest(t *testing.T) {
	d := desk.New()
	deep := " OUTPUT = " + strings.Repeat("(", 300) + strings.Repeat("-", 90) + "1" + strings.Repeat(")", 300)
	changes := 0
	for _, name := range names(api.MaxNamed) {
		oks(t, d, "new "+name)
		oks(t, d, times("line "+name+" "+deep, api.MaxLines)...)
		oks(t, d, times("input "+name+" "+strings.Repeat("x", 1900), api.MaxInput)...)
		changes += 1 + api.MaxLines + api.MaxInput
	}
	for _, name := range names(api.MaxNamed) {
		if got, want := d.Do("run "+name), strings.Repeat("1\n", api.MaxLines)+"ended 1 1000"; got != want {
			t.Errorf("run %s is %s; want %s", name, brief(got), brief(want))
		}
		wantWrong(t, d, "list "+name, api.ErrMuch)
		oks(t, d, "quick "+name)
		if got, want := d.Do("list "+name), strings.Repeat(" OUTPUT = 1\n", api.MaxLines); got != want {
			t.Errorf("list %s is %s; want %s", name, brief(got), brief(want))
		}
		oks(t, d, "drop "+name)
		changes += 2
	}
	for range changes {
		want(t, d, "undo", "ok")
	}
	wantWrong(t, d, "undo", api.ErrState)
	if got := state(d); got != "" {
		t.Errorf("at the beginning there is %s", brief(got))
	}
}

// The same lines are answered the same each time, on whichever desk, whoever else has one.
func TestZ1TheSameEachTime(t *testing.T) {
	m := newMixer(421)
	said := news([]string{"A", "B"})
	for range 500 {
		said = append(said, m.line())
	}
	answers := func() string {
		d := desk.New()
		var out []string
		for _, line := range said {
			out = append(out, d.Do(line))
		}
		return fmt.Sprintf("%q", out)
	}
	want := answers()
	came := make(chan string)
	for range 8 {
		go func() { came <- answers() }()
	}
	for range 8 {
		if got := <-came; got != want {
			t.Errorf("another time comes %s; want %s", brief(got), brief(want))
		}
	}
}

// scribbled does what a line asks for; the memory that the line lay in is written over as soon as that is answered.
func scribbled(d *desk.Desk, line string) string {
	if line == "" {
		return d.Do("")
	}
	room := []byte(line)
	answer := d.Do(unsafe.String(&room[0], len(room)))
	answer = strings.Clone(answer)
	for i := range room {
		room[i] = '#'
	}
	return answer
}

// Nothing of a line is kept: neither names, nor statements, nor texts that come in.
func TestZ2NothingIsKept(t *testing.T) {
	d := desk.New()
	for _, line := range []string{"new LONGNAME", "line LONGNAME LABEL OUTPUT = 'text' & INPUT", "line LONGNAME  RULE := ['literal' | SPAN('xyz') . GIVEN]", "line LONGNAME  'literal' ? [*RULE . GIVEN @PLACE] :F(END)", "line LONGNAME  OUTPUT = GIVEN & PLACE & FUNCTION(12)", "line LONGNAME  TABLE<'key'> = $'VARIABLE' :(END)", "line LONGNAME ENTRY FUNCTION = PARAM + LOCAL + 1 :(RETURN)", "line LONGNAME  DEFINE FUNCTION(PARAM)LOCAL ENTRY", "input LONGNAME a line"} {
		if got := scribbled(d, line); got != "ok" {
			t.Fatalf("Do(%q) is %q", line, got)
		}
	}
	list := "LABEL OUTPUT = 'text' & INPUT\n RULE := ['literal' | SPAN('xyz') . GIVEN]\n 'literal' ? [*RULE . GIVEN @PLACE] :F(END)\n OUTPUT = GIVEN & PLACE & FUNCTION(12)\n TABLE<'key'> = $'VARIABLE' :(END)\nENTRY FUNCTION = PARAM + LOCAL + 1 :(RETURN)\n DEFINE FUNCTION(PARAM)LOCAL ENTRY\n"
	want(t, d, "list LONGNAME", list)
	want(t, d, "run LONGNAME", "texta line\nliteral713\nended 1 12")
	if got := scribbled(d, "drop LONGNAME") + scribbled(d, "undo"); got != "okok" {
		t.Errorf("drop and undo are answered %q", got)
	}
	want(t, d, "list LONGNAME", list)
	oks(t, d, "undo")
	want(t, d, "run LONGNAME", "literal713\nended 1 12") // nothing comes in any more
}

// So it is with mixed lines, too.
func TestZ2NothingIsKeptOfMixedLines(t *testing.T) {
	m := newMixer(431)
	for range 300 {
		a, b := after(t, "new A", "new B"), after(t, "new A", "new B")
		for range 50 {
			line := m.line()
			if got, want := scribbled(a, line), b.Do(line); got != want {
				t.Fatalf("Do(%q) is %q; want %q", line, got, want)
			}
		}
		wantSame(t, "lines that were written over", a, b)
	}
}

// overlap tells whether two texts lie in the same memory.
func overlap(a, b string) bool {
	if a == "" || b == "" {
		return false
	}
	from, to := uintptr(unsafe.Pointer(unsafe.StringData(a))), uintptr(unsafe.Pointer(unsafe.StringData(b)))
	return from < to+uintptr(len(b)) && to < from+uintptr(len(a))
}

// What is told of a program lies neither in what was handed in, nor in what else was told.
func TestZ2AnswersAreNewMemory(t *testing.T) {
	lines := []string{"new A", "line A  OUTPUT = 'a text of the program'", "line A  OUTPUT = INPUT", "input A a line that comes in"}
	d := after(t, lines...)
	var told []string
	for _, line := range []string{"list A", "run A", "list A", "run A", "line A", "undo ", "list B"} {
		got := d.Do(line)
		for _, other := range slices.Concat(lines, told) {
			if overlap(got, other) && !strings.HasPrefix(got, "error") {
				t.Errorf("%q lies in the memory of %q", got, other)
			}
		}
		told = append(told, got)
	}
}

// Beside an error nothing is told.
func TestZ4ErrorsAreTheirNumberAlone(t *testing.T) {
	m := newMixer(433)
	d := after(t, "new A", "new B")
	errors := 0
	for range 5000 {
		got := d.Do(m.line())
		if !strings.HasPrefix(got, "error") {
			continue
		}
		errors++
		if len(got) != len("error 1") || got[6] < '1' || got[6] > '9' {
			t.Errorf("an error is told as %q", got)
		}
	}
	if errors < 500 {
		t.Errorf("only %d errors are told", errors)
	}
}
