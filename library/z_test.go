package library_test

import (
	"slices"
	"strings"
	"testing"

	"scanfail/api"
	"scanfail/library"
)

// Whatever a name is, no call panics, and just the names that there are have a text.
func TestZ1Anything(t *testing.T) {
	d := dice(409)
	names := library.Names()
	found := 0
	for range 200000 {
		name := d.text("catsum \xff", 4)
		text, err := library.Text(name)
		if slices.Contains(names, name) {
			found++
			if err != api.OK || text == "" {
				t.Errorf("Text of %q: %q, error %d", name, text, err)
			}
		} else if err != api.ErrName || text != "" {
			t.Errorf("Text of %q: %q, error %d", name, text, err)
		}
	}
	if found < 50 {
		t.Errorf("only %d were names", found)
	}
}

// everything is what all calls answer.
func everything() string {
	names := library.Names()
	out := []string{strings.Join(names, " ")}
	for _, name := range names {
		text, _ := library.Text(name)
		out = append(out, text)
	}
	return strings.Join(out, "\n")
}

// The same comes each time, whoever else asks.
func TestZ1TheSameEachTime(t *testing.T) {
	want := everything()
	done := make(chan string)
	for range 20 {
		go func() { done <- everything() }()
	}
	for range 20 {
		if got := <-done; got != want {
			t.Errorf("another time comes %s; want %s", got, want)
		}
	}
}

// Names are the caller's, with the room behind them.
func TestZ2NamesAreNewMemory(t *testing.T) {
	want := everything()
	a, b := library.Names(), library.Names()
	for _, l := range [][]string{a, a[:cap(a)]} {
		for i := range l {
			l[i] = "changed"
		}
	}
	if got := everything(); got != want || slices.Contains(b, "changed") || slices.Contains(b[:cap(b)], "changed") {
		t.Errorf("what was done to an answer is seen in another one: %q", b)
	}
}
