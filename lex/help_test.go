package lex_test

import (
	"slices"
	"testing"

	"scanfail/api"
	"scanfail/lex"
)

func word(s string, at int) api.Token { return api.Token{Kind: api.TokWord, Text: s, At: at} }

func number(s string, at int) api.Token { return api.Token{Kind: api.TokNumber, Text: s, At: at} }

func text(s string, at int) api.Token { return api.Token{Kind: api.TokText, Text: s, At: at} }

func pattern(s string, at int) api.Token { return api.Token{Kind: api.TokPattern, Text: s, At: at} }

func sign(s string, at int) api.Token { return api.Token{Kind: api.TokSign, Text: s, At: at} }

// brief is a text as a failure tells it: 2000 bytes of it would help nobody.
func brief(s string) string {
	if len(s) > 80 {
		return s[:80] + ".."
	}
	return s
}

func briefList(l []api.Token) []api.Token {
	out := slices.Clone(l[:min(len(l), 20)])
	for i := range out {
		out[i].Text = brief(out[i].Text)
	}
	return out
}

func wantTokens(t *testing.T, s string, want ...api.Token) {
	t.Helper()
	got, fault := lex.Line(s)
	if fault != (api.Fault{}) || !slices.Equal(got, want) {
		t.Errorf("Line %q (%d bytes): %d tokens, %+v, fault %v; want %d, %+v, no fault", brief(s), len(s), len(got), briefList(got), fault, len(want), briefList(want))
	}
}

// wantFault also asks Z4: beside a fault there are no tokens.
func wantFault(t *testing.T, s string, err api.Errno, at int) {
	t.Helper()
	got, fault := lex.Line(s)
	if fault != (api.Fault{Err: err, At: at}) || len(got) > 0 {
		t.Errorf("Line %q (%d bytes): %d tokens, %+v, fault %v; want no tokens, fault {%d %d}", brief(s), len(s), len(got), briefList(got), fault, err, at)
	}
}

func wantForm(t *testing.T, s string, at int) {
	t.Helper()
	wantFault(t, s, api.ErrForm, at)
}

// dice tells numbers that look mixed, the same ones each time.
type dice uint64

func (d *dice) below(n int) int {
	*d ^= *d << 13
	*d ^= *d >> 7
	*d ^= *d << 17
	return int(uint64(*d) >> 11 % uint64(n))
}
