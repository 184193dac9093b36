package lex_test

import "scanfail/api"

// model cuts a line byte by byte and never looks ahead: all that it knows is in what it is, and in the last token, which grows.
type model struct {
	out []api.Token
	in  string // "", word, number, colon, text, quote (in a text: it may have closed it), pattern, within (quotes of a pattern)
}

func modelLine(s string) ([]api.Token, api.Fault) {
	if len(s) > 2000 {
		return nil, api.Fault{Err: api.ErrMuch}
	}
	var m model
	for i := range len(s) {
		if !m.goOn(s[i]) && !m.begin(s[i], i) {
			return nil, api.Fault{Err: api.ErrForm, At: i}
		}
	}
	if m.in == "text" || m.in == "pattern" || m.in == "within" {
		return nil, api.Fault{Err: api.ErrForm, At: len(s)}
	}
	return m.out, api.Fault{}
}

// grow puts a byte behind the last token, and tells what is known then.
func (m *model) grow(b byte, in string) bool {
	m.out[len(m.out)-1].Text += string([]byte{b})
	m.in = in
	return true
}

// goOn tells whether the last token goes on with a byte, its closing sign too.
func (m *model) goOn(b byte) bool {
	digit, letter, quote := b-'0' < 10, b-'A' < 26, b == '\''
	switch {
	case m.in == "word" && (letter || digit), m.in == "number" && digit:
		return m.grow(b, m.in)
	case m.in == "colon" && b == '=':
		return m.grow(b, "")
	case m.in == "text" && quote:
		m.in = "quote"
		return true
	case m.in == "text", m.in == "quote" && quote:
		return m.grow(b, "text")
	case m.in == "pattern" && b == ']':
		m.in = ""
		return true
	case m.in == "pattern" && quote:
		return m.grow(b, "within")
	case m.in == "within" && quote:
		return m.grow(b, "pattern")
	case m.in == "pattern", m.in == "within":
		return m.grow(b, m.in)
	}
	m.in = ""
	return false
}

// begin tells whether a byte is a blank, or a token can begin with it.
func (m *model) begin(b byte, at int) bool {
	switch b {
	case ' ':
		return true
	case '\'':
		return m.add(api.TokText, "", at, "text")
	case '[':
		return m.add(api.TokPattern, "", at, "pattern")
	case ':':
		return m.add(api.TokSign, ":", at, "colon")
	case '=', '?', '&', '+', '-', '*', '/', '%', '(', ')', '<', '>', ',', '$':
		return m.add(api.TokSign, string(rune(b)), at, "")
	}
	switch {
	case b-'0' < 10:
		return m.add(api.TokNumber, string(rune(b)), at, "number")
	case b-'A' < 26:
		return m.add(api.TokWord, string(rune(b)), at, "word")
	}
	return false
}

func (m *model) add(kind int, s string, at int, in string) bool {
	m.out = append(m.out, api.Token{Kind: kind, Text: s, At: at})
	m.in = in
	return true
}
