package lex_test

import (
	"strings"
	"testing"
	"unsafe"

	"scanfail/api"
	"scanfail/lex"
)

// shares tells whether two texts lie, in part, in the same memory.
func shares(a, b string) bool {
	if a == "" || b == "" {
		return false
	}
	p, q := uintptr(unsafe.Pointer(unsafe.StringData(a))), uintptr(unsafe.Pointer(unsafe.StringData(b)))
	return p < q+uintptr(len(b)) && q < p+uintptr(len(a))
}

func TestZ2AnswersAreNewMemory(t *testing.T) {
	for _, s := range []string{"LABEL X := 'text' & 'it''s' + 1234 :S(LABEL)", "['pattern' | ANY('bytes')]", "WORD", "12", "'text'", "=", ":=", "[ARB]"} {
		l, fault := lex.Line(s)
		if fault != (api.Fault{}) || len(l) == 0 {
			t.Errorf("Line %q: %v, fault %v", s, l, fault)
		}
		for _, x := range l {
			if shares(x.Text, s) {
				t.Errorf("Line %q: %q lies in what it was given", s, x.Text)
			}
		}
	}
}

// Two answers share nothing, not even the room behind them.
func TestZ2ListsAreApart(t *testing.T) {
	for range 3 {
		a, _ := lex.Line("X = 'a'")
		b, _ := lex.Line("X = 'a'")
		_, _ = append(a, api.Token{}), append(b, api.Token{Text: "other"})
		clear(a[:cap(a)])
		if len(b) != 3 || b[0] != word("X", 0) || b[1] != sign("=", 2) || b[2] != text("a", 4) {
			t.Errorf("what was done with one answer is seen in another one: %v", b)
		}
		wantTokens(t, "X = 'a'", word("X", 0), sign("=", 2), text("a", 4))
	}
}

// What a call answers does not hang on the calls ahead of it.
func TestZ1CallsDoNotKnowOfOneAnother(t *testing.T) {
	for range 20 {
		wantForm(t, "'a", 2)
		wantTokens(t, "a'a'"[1:], text("a", 0))
		wantForm(t, "[A", 2)
		wantTokens(t, "B]"[:1], word("B", 0))
		wantTokens(t, ":", sign(":", 0))
		wantTokens(t, "=", sign("=", 0))
		wantFault(t, strings.Repeat("X", api.MaxLine+1), api.ErrMuch, 0)
		wantTokens(t, "")
	}
}

func TestZ1SeveralAtOnce(t *testing.T) {
	done := make(chan string)
	for range 8 {
		go func() {
			said := ""
			for range 200 {
				l, fault := lex.Line("L X = 'it''s' :(L)")
				if fault != (api.Fault{}) || len(l) != 8 || l[3].Text != "it's" {
					said = "something else comes when several are at it"
				}
			}
			done <- said
		}()
	}
	for range 8 {
		if said := <-done; said != "" {
			t.Error(said)
		}
	}
}
