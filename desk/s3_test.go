package desk_test

import (
	"fmt"
	"strings"
	"testing"

	"scanfail/api"
	"scanfail/desk"
)

// begun is what the desks of these tests begin with: a program that has something of each.
var begun = []string{"new A", "line A L OUTPUT = INPUT :S(L)", "line A  OUTPUT = 1 + 1 :(M)", "line A M :(END)", "input A x", "input A y"}

// undone holds that an undo behind lines brings a desk back to where it was.
func undone(t *testing.T, lines ...string) {
	t.Helper()
	d := after(t, begun...)
	was := state(d)
	ahead := was
	for _, line := range lines {
		oks(t, d, line)
		now := state(d)
		if now == ahead {
			t.Errorf("%q has changed nothing", line)
		}
		ahead = now
	}
	for range lines {
		want(t, d, "undo", "ok")
	}
	if got := state(d); got != was {
		t.Errorf("%q and as many undo:\n%s\nwant\n%s", lines, got, was)
	}
	wantSame(t, fmt.Sprintf("%q and as many undo", lines), d, after(t, begun...))
}

// Each word that changes something can be undone.
func TestS3EachChange(t *testing.T) {
	undone(t, "new B")
	undone(t, "line A  OUTPUT = 'z'")
	undone(t, "line A ")
	undone(t, "input A z")
	undone(t, "input A ")
	undone(t, "quick A")
	undone(t, "drop A")
}

func TestS3TwoChanges(t *testing.T) {
	undone(t, "new B", "line B  OUTPUT = 'z'")
	undone(t, "new B", "drop B")
	undone(t, "new B", "drop A")
	undone(t, "line A  OUTPUT = 1 + 2", "quick A")
	undone(t, "quick A", "line A  OUTPUT = 1 + 2")
	undone(t, "quick A", "input A z")
	undone(t, "input A z", "input A ")
	undone(t, "drop A", "new A")
	undone(t, "drop A", "new A", "line A  OUTPUT = 1 + 1 & INPUT", "input A z", "quick A", "drop A", "new A")
	undone(t, "line A  OUTPUT = 1 + 2", "quick A", "input A z", "new B", "line B L OUTPUT = INPUT :S(L)", "drop A", "input B b", "new A", "drop B")
}

func TestS3NewIsUndone(t *testing.T) {
	d := after(t, "new A", "undo")
	for _, line := range []string{"list A", "run A", "line A ", "input A x", "quick A", "drop A"} {
		wantWrong(t, d, line, api.ErrName)
	}
	oks(t, d, "new A")
	want(t, d, "run A", "ended 1 0")
}

func TestS3LineIsUndone(t *testing.T) {
	d := after(t, "new A", "line A  OUTPUT = 1", "line A  OUTPUT = 2", "undo")
	want(t, d, "list A", " OUTPUT = 1\n")
	oks(t, d, "line A  OUTPUT = 3")
	want(t, d, "run A", "1\n3\nended 1 2")
	oks(t, d, "undo", "undo")
	want(t, d, "list A", "")
}

func TestS3InputIsUndone(t *testing.T) {
	d := after(t, "new A", "line A L OUTPUT = INPUT :S(L)", "input A a", "input A b", "undo")
	want(t, d, "run A", "a\nended 1 2")
	oks(t, d, "input A c")
	want(t, d, "run A", "a\nc\nended 1 3")
	oks(t, d, "undo", "undo")
	want(t, d, "run A", "ended 1 1")
}

func TestS3QuickIsUndone(t *testing.T) {
	d := after(t, "new A", "line A  OUTPUT = (1 + 2) * 3 :(L)", "line A L :(M)", "line A M 'ab' ? ['a' 'b']")
	list, run := d.Do("list A"), d.Do("run A")
	oks(t, d, "quick A")
	want(t, d, "list A", " OUTPUT = 9 :(M)\nL :(M)\nM 'ab' ? ['ab']\n")
	oks(t, d, "undo")
	want(t, d, "list A", list)
	want(t, d, "list A", " OUTPUT = (1 + 2) * 3 :(L)\nL :(M)\nM 'ab' ? ['a' 'b']\n")
	want(t, d, "run A", run)
}

// A quick that makes nothing quicker was answered ok: it is a change like all others.
func TestS3QuickThatChangesNothing(t *testing.T) {
	d := after(t, "new A", "line A  OUTPUT = 1", "quick A", "quick A", "undo", "undo")
	want(t, d, "run A", "1\nended 1 1")
	oks(t, d, "undo")
	want(t, d, "list A", "")
	oks(t, d, "quick A", "undo", "undo")
	wantWrong(t, d, "undo", api.ErrState)
}

// A program that was dropped comes back with all that it had, and its changes ahead of that can be undone, too.
func TestS3DropIsUndone(t *testing.T) {
	d := after(t, append(begun, "drop A", "undo")...)
	want(t, d, "run A", "x\ny\n2\nended 1 5")
	want(t, d, "list A", "L OUTPUT = INPUT :S(L)\n OUTPUT = 1 + 1 :(M)\nM :(END)\n")
	oks(t, d, "undo")
	want(t, d, "run A", "x\n2\nended 1 4")
	oks(t, d, "undo")
	want(t, d, "run A", "2\nended 1 3")
	oks(t, d, "undo")
	want(t, d, "run A", "error 6") // nobody is M any more
	oks(t, d, "drop A", "new A", "line A  OUTPUT = 'anew'", "undo", "undo", "undo", "undo")
	want(t, d, "list A", "L OUTPUT = INPUT :S(L)\n")
	oks(t, d, "undo", "undo")
	wantWrong(t, d, "list A", api.ErrName)
	wantWrong(t, d, "undo", api.ErrState)
}

// undo is answered ok, but is no change itself: another one goes on further back, and nothing brings back what was undone.
func TestS3UndoIsNoChange(t *testing.T) {
	d := after(t, "new A", "line A  OUTPUT = 1", "line A  OUTPUT = 2", "line A  OUTPUT = 3")
	for _, list := range []string{" OUTPUT = 1\n OUTPUT = 2\n", " OUTPUT = 1\n", "", "error 7"} {
		want(t, d, "undo", "ok")
		want(t, d, "list A", list)
	}
	wantWrong(t, d, "undo", api.ErrState)
	want(t, d, "list A", "error 7")
}

// What only asks, and what was wrong, is no change.
func TestS3AskingIsNoChange(t *testing.T) {
	d := after(t, begun...)
	for _, line := range append([]string{"list A", "run A", "list A"}, wrongs...) {
		if !strings.HasPrefix(line, "new B") {
			d.Do(line)
		}
	}
	wantSame(t, "behind what only asks or is wrong", d, after(t, begun...))
	d = after(t, "new A", "input A x")
	d.Do("run A")
	d.Do("list A")
	d.Do("new A")
	d.Do("line A  X =")
	oks(t, d, "undo")
	d.Do("run A")
	d.Do("list A")
	d.Do("input B x")
	oks(t, d, "undo")
	wantWrong(t, d, "list A", api.ErrName)
	wantWrong(t, d, "undo", api.ErrState)
	wantWrong(t, d, "undo", api.ErrState)
}

// A list that reads like an answer is none.
func TestS3AnswersThatReadLikeOk(t *testing.T) {
	d := after(t, "new A", "line A OK", "line A  OUTPUT = 'ok'")
	want(t, d, "list A", "OK\n OUTPUT = 'ok'\n")
	want(t, d, "run A", "ok\nended 1 2")
	oks(t, d, "undo", "undo", "undo")
	wantWrong(t, d, "undo", api.ErrState)
}

// Changes behind an undo come in the place of what was undone.
func TestS3ChangesBehindAnUndo(t *testing.T) {
	d := after(t, "new A", "line A  OUTPUT = 1", "line A  OUTPUT = 2", "undo", "line A  OUTPUT = 3", "line A  OUTPUT = 4", "undo", "undo", "line A  OUTPUT = 5")
	want(t, d, "run A", "1\n5\nended 1 2")
	oks(t, d, "undo")
	want(t, d, "run A", "1\nended 1 1")
	oks(t, d, "quick A", "line A  OUTPUT = 6", "undo", "undo", "line A  OUTPUT = 7", "undo")
	want(t, d, "run A", "1\nended 1 1")
	oks(t, d, "undo", "undo")
	wantWrong(t, d, "undo", api.ErrState)
	oks(t, d, "new B", "undo", "new C", "new B")
	wantWrong(t, d, "undo B", api.ErrKind)
	oks(t, d, "undo", "undo")
	wantWrong(t, d, "undo", api.ErrState)
}

// What a dropped program had is not written over by what comes in its place, nor by what comes behind an undo.
func TestS3WhatWasIsKept(t *testing.T) {
	d := after(t, begun...)
	was := state(d)
	for _, lines := range [][]string{
		{"drop A", "new A", "line A  OUTPUT = 'other'", "line A  OUTPUT = 'other'", "input A other", "input A other"},
		{"quick A", "line A  OUTPUT = 'other'", "quick A", "line A  OUTPUT = 'other'", "input A other"},
		{"line A  OUTPUT = 'a'", "quick A", "line A  OUTPUT = 'b'", "drop A"},
		{"input A a", "input A b", "drop A", "new A", "input A c"},
	} {
		for range 3 {
			oks(t, d, lines...)
			oks(t, d, times("undo", len(lines))...)
			if got := state(d); got != was {
				t.Errorf("%q and as many undo:\n%s\nwant\n%s", lines, got, was)
			}
			oks(t, d, lines...)
			oks(t, d, times("undo", len(lines)-1)...)
			oks(t, d, lines[1:]...)
			oks(t, d, times("undo", len(lines))...)
			if got := state(d); got != was {
				t.Errorf("%q, undo, and again:\n%s\nwant\n%s", lines, got, was)
			}
		}
	}
}

// What a line was wrong for may be right once another one is undone, and the other way round.
func TestS3LimitsBehindAnUndo(t *testing.T) {
	d := after(t, news(names(api.MaxNamed))...)
	wantWrong(t, d, "new X", api.ErrMany)
	oks(t, d, "undo", "new X")
	wantWrong(t, d, "new N19", api.ErrMany)
	wantWrong(t, d, "line N19 ", api.ErrName)
	oks(t, d, "drop X", "new N19")
	wantWrong(t, d, "new X", api.ErrMany)
	oks(t, d, "undo", "undo")
	want(t, d, "list X", "")
	wantWrong(t, d, "new N19", api.ErrMany)
}

// As many changes as one likes can be undone, one behind the other, down to the first one.
func TestS3ManyChanges(t *testing.T) {
	d := desk.New()
	m := newMixer(401)
	wasAhead := []string{state(d)}
	for len(wasAhead) <= 3000 {
		if d.Do(m.change()) == "ok" {
			wasAhead = append(wasAhead, state(d))
		}
	}
	for len(wasAhead) > 1 {
		last := len(wasAhead) - 1
		if got := state(d); got != wasAhead[last] {
			t.Fatalf("with %d changes left:\n%s\nwant\n%s", last, brief(got), brief(wasAhead[last]))
		}
		wasAhead = wasAhead[:last]
		want(t, d, "undo", "ok")
	}
	if got := state(d); got != "" {
		t.Errorf("without a change left there is %s", brief(got))
	}
	wantWrong(t, d, "undo", api.ErrState)
}
