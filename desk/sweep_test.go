package desk_test

import (
	"strings"
	"testing"

	"scanfail/desk"
)

// mixer makes lines that look mixed, the same ones each time.
type mixer struct{ dice }

func newMixer(seed uint64) *mixer { return &mixer{dice(seed)} }

func (m *mixer) name() string {
	return pick(&m.dice, "A", "A", "A", "B", "B", "AB", "A1", "NEW")
}

// statement is a line of a program, most often one with which nothing is wrong.
func (m *mixer) statement() string {
	return pick(&m.dice, "", " OUTPUT = INPUT", "L OUTPUT = INPUT :S(L)", " OUTPUT = 1 + 1", " N = N + 1", " OUTPUT = N & '.'", " OUTPUT = N :(END)", "M :(L)", " 'ab' ? ['a' 'b']", " N ? [LEN(1)] = 'x'", " P := ['a' | *P]", " 'aa' ? [*P . N]", " LT(N, 3) :S(L)", " T<N> = T<N> & N", " DEFINE F(N) F", "F F = N + 1 :(RETURN)", " OUTPUT = F(2)", " OUTPUT = -(2)", " X =", "*", " X = 'a\nb'", "END", " SIZE()")
}

// change is a line that may change something, but no undo.
func (m *mixer) change() string {
	switch m.below(8) {
	case 0:
		return "new " + m.name()
	case 1, 2, 3:
		return "line " + m.name() + " " + m.statement()
	case 4, 5:
		return "input " + m.name() + " " + pick(&m.dice, "", "a", "b", " c ", "\n")
	case 6:
		return "quick " + m.name()
	}
	if m.below(3) > 0 {
		return "quick " + m.name()
	}
	return "drop " + m.name()
}

// line is any line, right or wrong.
func (m *mixer) line() string {
	switch m.below(10) {
	case 0, 1:
		return "undo"
	case 2:
		return pick(&m.dice, "list ", "run ") + m.name()
	case 3:
		return pick(&m.dice, "new ", "line ", "input ", "quick ", "drop ", "list ", "run ", "undo ", "new", "line", "run", "", " ", "x ") + pick(&m.dice, "", " ", "A", "A ", "A x", " A", "a", "C", "C  X = 1", "\x00")
	}
	return m.change()
}

// Mixed lines are answered as the model answers them.
func TestS2Sweep(t *testing.T) {
	m := newMixer(409)
	oks, undos, errors := 0, 0, 0
	for range 1500 {
		d, other := desk.New(), &model{}
		var said []string
		for i := range 10 + m.below(60) {
			line := m.line()
			if i < 2 {
				line = "new " + m.name()
			}
			said = append(said, line)
			got, want := d.Do(line), other.do(line)
			if got != want {
				t.Fatalf("%q: the last one is answered %s; want %s", said, brief(got), brief(want))
			}
			switch {
			case strings.HasPrefix(got, "error"):
				errors++
			case line == "undo":
				undos++
			default:
				oks++
			}
		}
	}
	if oks < 10000 || undos < 3000 || errors < 10000 {
		t.Errorf("the lines are too much alike: %d are right, %d undone, %d wrong", oks, undos, errors)
	}
}

// Whatever six lines are said, one behind the other: what the desk then tells, and with each undo, is what the model tells.
func TestS3Sweep(t *testing.T) {
	lines := []string{"new A", "line A  OUTPUT = 1 + 1", "line A  OUTPUT = INPUT", "input A x", "quick A", "drop A", "undo"}
	said := make([]string, 6)
	var say func(at int)
	say = func(at int) {
		if t.Failed() {
			return
		}
		if at < len(said) {
			for _, line := range lines {
				said[at] = line
				say(at + 1)
			}
			return
		}
		d, other := desk.New(), &model{}
		asks := append([]string{}, said...)
		for range len(said) + 1 {
			asks = append(asks, "list A", "run A", "undo")
		}
		for i, line := range asks {
			if got, want := d.Do(line), other.do(line); got != want {
				t.Fatalf("%q: the last one is answered %q; want %q", asks[:i+1], got, want)
			}
		}
	}
	said[0] = lines[0] // all others are wrong at first
	say(1)
}
